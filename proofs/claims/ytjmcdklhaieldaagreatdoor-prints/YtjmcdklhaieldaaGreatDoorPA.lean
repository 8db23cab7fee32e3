set_option linter.all false
namespace Thk

abbrev Bytes := List UInt8

def isLet (c : UInt8) : Bool := 97 ≤ c && c ≤ 122
def isBlank (c : UInt8) : Bool := c == 32 || c == 9 || c == 10 || c == 13

/-- How many bytes there are up to the line's end. -/
def lineN : Bytes → Nat
  | [] => 0
  | c :: t => if c = 10 then 0 else lineN t + 1

/-- How many bytes of blanks (comments too) there are; the flag: within a comment? -/
def blk : Bool → Bytes → Nat
  | _, [] => 0
  | true, c :: t => if c = 10 then blk false t + 1 else blk true t + 1
  | false, c :: t => if isBlank c then blk false t + 1 else if c = 35 then blk true t + 1 else 0

def letN : Bytes → Nat
  | [] => 0
  | c :: t => if isLet c then letN t + 1 else 0

def escL (m : Bytes) : Bytes → Option (UInt8 × Nat)
  | [] => none
  | d :: _ => if d = 110 then some (10, 2) else if d = 116 then some (9, 2) else if d = 92 || m.contains d then some (d, 2) else none

def charL (m : Bytes) : Bytes → Option (UInt8 × Nat)
  | [] => none
  | c :: t => if c = 92 then escL m t else if c = 10 || m.contains c then none else some (c, 1)

def charsF (m : Bytes) : Nat → Bytes → Bytes × Nat
  | 0, _ => ([], 0)
  | f + 1, l => match charL m l with
    | none => ([], 0)
    | some (c, n) => (c :: (charsF m f (l.drop n)).1, n + (charsF m f (l.drop n)).2)

def charsL (m : Bytes) (l : Bytes) : Bytes × Nat := charsF m l.length l

abbrev Span := UInt8 × UInt8

def spanL (l : Bytes) : Option (Span × Nat) :=
  match charL [93, 45] l with
  | none => none
  | some (lo, n) =>
    if l[n]? = some 45 then
      match charL [93, 45] (l.drop (n + 1)) with
      | none => none
      | some (hi, k) => if lo ≤ hi then some ((lo, hi), n + 1 + k) else none
    else some ((lo, lo), n)

def spansF : Nat → Bytes → List Span × Nat
  | 0, _ => ([], 0)
  | f + 1, l => match spanL l with
    | none => ([], 0)
    | some (c, n) => (c :: (spansF f (l.drop n)).1, n + (spansF f (l.drop n)).2)

def spansL (l : Bytes) : List Span × Nat := spansF l.length l

inductive TK where
  | fin | bad | name | arrow | lit | cls | sign (c : UInt8)

structure Tok where
  kind : TK
  place : Nat
  size : Nat
  text : Bytes
  spans : List Span

def signB (c : UInt8) : Bool := [47, 38, 33, 63, 42, 43, 40, 41, 46].contains c

def badT : Tok := ⟨.bad, 0, 0, [], []⟩

def closesL (l : Bytes) (n : Nat) (mark : UInt8) (items : Nat) : Bool := l[n]? == some mark && decide (1 ≤ items) && decide (items ≤ 20)

def nameT (l : Bytes) : Tok := if 12 < letN l then badT else ⟨.name, 0, letN l, l.take (letN l), []⟩
def litT (t : Bytes) : Tok :=
  if closesL t (charsL [39] t).2 39 (charsL [39] t).1.length then ⟨.lit, 0, (charsL [39] t).2 + 2, (charsL [39] t).1, []⟩ else badT
def clsT (t : Bytes) : Tok :=
  if closesL t (spansL t).2 93 (spansL t).1.length then ⟨.cls, 0, (spansL t).2 + 2, [], (spansL t).1⟩ else badT

/-- The token at the beginning (no blanks ahead). -/
def tokL : Bytes → Tok
  | [] => ⟨.fin, 0, 0, [], []⟩
  | c :: t =>
    if isLet c then nameT (c :: t)
    else if c = 60 ∧ t.head? = some 45 then ⟨.arrow, 0, 2, [], []⟩
    else if c = 39 then litT t
    else if c = 91 then clsT t
    else if signB c then ⟨.sign c, 0, 1, [], []⟩
    else badT

def TK.isArrow : TK → Bool
  | .arrow => true
  | _ => false

def TK.last : TK → Bool
  | .fin => true
  | .bad => true
  | _ => false

def toksF : Nat → Nat → Bytes → List Tok
  | 0, _, _ => []
  | f + 1, pos, l =>
    { tokL (l.drop (blk false l)) with place := pos + blk false l } ::
      (if (tokL (l.drop (blk false l))).kind.last then []
       else toksF f (pos + blk false l + (tokL (l.drop (blk false l))).size) ((l.drop (blk false l)).drop (tokL (l.drop (blk false l))).size))

def toks (l : Bytes) : List Tok := toksF (l.length + 1) 0 l



mutual
inductive Piece where
  | name (b : Bytes)
  | lit (b : Bytes)
  | cls (l : List Span)
  | any
  | group (c : List (List Term))
inductive Term where
  | mk (ahead : UInt8) (p : Piece) (behind : UInt8)
 end

abbrev Seq := List Term
abbrev Choice := List Seq

inductive Res (α : Type) where
  | ok (a : α) (rest : List Tok)
  | err (e p : Nat)

def Res.map {α β : Type} (f : α → β) : Res α → Res β
  | .ok a rest => .ok (f a) rest
  | .err e p => .err e p

def hd (ts : List Tok) : Tok := ts.headD badT

/-- Does a term begin here, within so many brackets? -/
def begins (d : Nat) (ts : List Tok) : Bool :=
  match (hd ts).kind with
  | .name => !(d == 0 && (hd ts.tail).kind.isArrow)
  | .lit => true
  | .cls => true
  | .sign c => c == 38 || c == 33 || c == 46 || c == 40
  | _ => false

def aheadOf (ts : List Tok) : UInt8 × List Tok :=
  match (hd ts).kind with
  | .sign c => if c = 38 ∨ c = 33 then (c, ts.tail) else (0, ts)
  | _ => (0, ts)

def behindOf (ts : List Tok) : UInt8 × List Tok :=
  match (hd ts).kind with
  | .sign c => if c = 63 ∨ c = 42 ∨ c = 43 then (c, ts.tail) else (0, ts)
  | _ => (0, ts)

/-- A piece that is no group. -/
def plainPiece (t : Tok) : Option Piece :=
  match t.kind with
  | .name => some (.name t.text)
  | .lit => some (.lit t.text)
  | .cls => some (.cls t.spans)
  | .sign c => if c = 46 then some .any else none
  | _ => none

mutual
inductive PPiece : Nat → List Tok → Res Piece → Prop
  | plain {d ts p} : plainPiece (hd ts) = some p → PPiece d ts (.ok p ts.tail)
  | bad {d ts} : plainPiece (hd ts) = none → (hd ts).kind ≠ .sign 40 → PPiece d ts (.err 2 (hd ts).place)
  | deep {ts} : (hd ts).kind = .sign 40 → PPiece 6 ts (.err 3 (hd ts).place)
  | group {d ts c rest} : (hd ts).kind = .sign 40 → d ≠ 6 → PChoice (d + 1) ts.tail (.ok c rest) → (hd rest).kind = .sign 41 → PPiece d ts (.ok (.group c) rest.tail)
  | unclosed {d ts c rest} : (hd ts).kind = .sign 40 → d ≠ 6 → PChoice (d + 1) ts.tail (.ok c rest) → (hd rest).kind ≠ .sign 41 → PPiece d ts (.err 2 (hd rest).place)
  | inner {d ts e p} : (hd ts).kind = .sign 40 → d ≠ 6 → PChoice (d + 1) ts.tail (.err e p) → PPiece d ts (.err e p)
inductive PTerm : Nat → List Tok → Res Term → Prop
  | ok {d ts p rest} : PPiece d (aheadOf ts).2 (.ok p rest) → PTerm d ts (.ok (.mk (aheadOf ts).1 p (behindOf rest).1) (behindOf rest).2)
  | err {d ts e p} : PPiece d (aheadOf ts).2 (.err e p) → PTerm d ts (.err e p)
inductive PSeq : Nat → List Tok → Res Seq → Prop
  | nil {d ts} : begins d ts = false → PSeq d ts (.ok [] ts)
  | cons {d ts t rest s rest'} : begins d ts = true → PTerm d ts (.ok t rest) → PSeq d rest (.ok s rest') → PSeq d ts (.ok (t :: s) rest')
  | err {d ts e p} : begins d ts = true → PTerm d ts (.err e p) → PSeq d ts (.err e p)
  | later {d ts t rest e p} : begins d ts = true → PTerm d ts (.ok t rest) → PSeq d rest (.err e p) → PSeq d ts (.err e p)
inductive PChoice : Nat → List Tok → Res Choice → Prop
  | last {d ts s rest} : PSeq d ts (.ok s rest) → (hd rest).kind ≠ .sign 47 → PChoice d ts (.ok [s] rest)
  | more {d ts s rest c rest'} : PSeq d ts (.ok s rest) → (hd rest).kind = .sign 47 → PChoice d rest.tail (.ok c rest') → PChoice d ts (.ok (s :: c) rest')
  | err {d ts e p} : PSeq d ts (.err e p) → PChoice d ts (.err e p)
  | later {d ts s rest e p} : PSeq d ts (.ok s rest) → (hd rest).kind = .sign 47 → PChoice d rest.tail (.err e p) → PChoice d ts (.err e p)
 end

structure Rule where
  name : Bytes
  choice : Choice

inductive PRule : Nat → List Tok → Res Rule → Prop
  | noName {n ts} : (hd ts).kind ≠ .name → PRule n ts (.err 2 (hd ts).place)
  | many {ts} : (hd ts).kind = .name → (hd ts.tail).kind = .arrow → PRule 20 ts (.err 4 (hd ts.tail).place)
  | noArrow {n ts} : (hd ts).kind = .name → (hd ts.tail).kind ≠ .arrow → PRule n ts (.err 2 (hd ts.tail).place)
  | ok {n ts c rest} : (hd ts).kind = .name → (hd ts.tail).kind = .arrow → n ≠ 20 → PChoice 0 ts.tail.tail (.ok c rest) → PRule n ts (.ok ⟨(hd ts).text, c⟩ rest)
  | err {n ts e p} : (hd ts).kind = .name → (hd ts.tail).kind = .arrow → n ≠ 20 → PChoice 0 ts.tail.tail (.err e p) → PRule n ts (.err e p)

/-- The rules from number n on. -/
inductive PGram : Nat → List Tok → Except (Nat × Nat) (List Rule) → Prop
  | last {n ts r rest} : PRule n ts (.ok r rest) → (hd rest).kind = .fin → PGram n ts (.ok [r])
  | more {n ts r rest g} : PRule n ts (.ok r rest) → (hd rest).kind ≠ .fin → PGram (n + 1) rest (.ok g) → PGram n ts (.ok (r :: g))
  | err {n ts e p} : PRule n ts (.err e p) → PGram n ts (.error (e, p))
  | later {n ts r rest x} : PRule n ts (.ok r rest) → (hd rest).kind ≠ .fin → PGram (n + 1) rest (.error x) → PGram n ts (.error x)

end Thk
namespace Thk

def Term.ahead : Term → UInt8 | .mk a _ _ => a
def Term.piece : Term → Piece | .mk _ p _ => p
def Term.behind : Term → UInt8 | .mk _ _ b => b

mutual
def emptyP (E : Bytes → Bool) : Piece → Bool
  | .name b => E b
  | .group c => emptyC E c
  | _ => false
def emptyT (E : Bytes → Bool) : Term → Bool
  | .mk a p b => (a != 0 || b == 63 || b == 42) || emptyP E p
def emptyS (E : Bytes → Bool) : List Term → Bool
  | [] => true
  | t :: s => emptyT E t && emptyS E s
def emptyC (E : Bytes → Bool) : List (List Term) → Bool
  | [] => false
  | s :: c => emptyS E s || emptyC E c
 end

mutual
def someP (H : Term → Bool) : Piece → Bool
  | .group c => someC H c
  | _ => false
def someT (H : Term → Bool) : Term → Bool
  | .mk a p b => H (.mk a p b) || someP H p
def someS (H : Term → Bool) : List Term → Bool
  | [] => false
  | t :: s => someT H t || someS H s
def someC (H : Term → Bool) : List (List Term) → Bool
  | [] => false
  | s :: c => someS H s || someC H c
 end

mutual
/-- The names that come first, those that are known to be empty passed over. -/
def firstP (E : Bytes → Bool) : Piece → List Bytes
  | .name b => [b]
  | .group c => firstC E c
  | _ => []
def firstT (E : Bytes → Bool) : Term → List Bytes
  | .mk _ p _ => firstP E p
def firstS (E : Bytes → Bool) : List Term → List Bytes
  | [] => []
  | t :: s => firstT E t ++ (if emptyT E t then firstS E s else [])
def firstC (E : Bytes → Bool) : List (List Term) → List Bytes
  | [] => []
  | s :: c => firstS E s ++ firstC E c
 end

theorem emptyC_cons (E) (s : Seq) (c : Choice) : emptyC E (s :: c) = (emptyS E s || emptyC E c) := by simp [emptyC]
end Thk
namespace Thk

def DPPiece (d : Nat) (ts : List Tok) (r : Res Piece) : Prop := ∀ r', PPiece d ts r' → r = r'
def DPTerm (d : Nat) (ts : List Tok) (r : Res Term) : Prop := ∀ r', PTerm d ts r' → r = r'
def DPSeq (d : Nat) (ts : List Tok) (r : Res Seq) : Prop := ∀ r', PSeq d ts r' → r = r'
def DPChoice (d : Nat) (ts : List Tok) (r : Res Choice) : Prop := ∀ r', PChoice d ts r' → r = r'

theorem d_PPiece_plain {d : Nat} {ts : List Tok} {p : Piece} (hp : plainPiece (hd ts) = some p) : DPPiece d ts (.ok p ts.tail) := by
  intro r' h'
  cases h' with
  | plain hp' => rw [hp] at hp'; cases hp'; rfl
  | bad hn _ => rw [hp] at hn; cases hn
  | deep hk => exact absurd hp (by simp [plainPiece, hk])
  | group hk _ _ _ => exact absurd hp (by simp [plainPiece, hk])
  | unclosed hk _ _ _ => exact absurd hp (by simp [plainPiece, hk])
  | inner hk _ _ => exact absurd hp (by simp [plainPiece, hk])

theorem d_PPiece_bad {d : Nat} {ts : List Tok} (hn : plainPiece (hd ts) = none) (hk : (hd ts).kind ≠ .sign 40) : DPPiece d ts (.err 2 (hd ts).place) := by
  intro r' h'
  cases h' with
  | plain hp' => rw [hn] at hp'; cases hp'
  | bad _ _ => rfl
  | deep hk' => exact absurd hk' hk
  | group hk' _ _ _ => exact absurd hk' hk
  | unclosed hk' _ _ _ => exact absurd hk' hk
  | inner hk' _ _ => exact absurd hk' hk

theorem d_PPiece_deep {ts : List Tok} (hk : (hd ts).kind = .sign 40) : DPPiece 6 ts (.err 3 (hd ts).place) := by
  intro r' h'
  cases h' with
  | plain hp' => exact absurd hp' (by simp [plainPiece, hk])
  | bad _ hk' => exact absurd hk hk'
  | deep _ => rfl
  | group _ hd _ _ => exact absurd rfl hd
  | unclosed _ hd _ _ => exact absurd rfl hd
  | inner _ hd _ => exact absurd rfl hd

theorem d_PPiece_group {d : Nat} {ts : List Tok} {c : Choice} {rest : List Tok} (hk : (hd ts).kind = .sign 40) (hd' : d ≠ 6) (hc : PChoice (d + 1) ts.tail (.ok c rest)) (hcl : (hd rest).kind = .sign 41) (ihc : DPChoice (d + 1) ts.tail (.ok c rest)) : DPPiece d ts (.ok (.group c) rest.tail) := by
  intro r' h'
  cases h' with
  | plain hp' => exact absurd hp' (by simp [plainPiece, hk])
  | bad _ hk' => exact absurd hk hk'
  | deep _ => exact absurd rfl hd'
  | group _ _ hc' _ => have := ihc _ hc'; cases this; rfl
  | unclosed _ _ hc' hcl' => have := ihc _ hc'; cases this; exact absurd hcl hcl'
  | inner _ _ hc' => have := ihc _ hc'; cases this

theorem d_PPiece_unclosed {d : Nat} {ts : List Tok} {c : Choice} {rest : List Tok} (hk : (hd ts).kind = .sign 40) (hd' : d ≠ 6) (hc : PChoice (d + 1) ts.tail (.ok c rest)) (hcl : (hd rest).kind ≠ .sign 41) (ihc : DPChoice (d + 1) ts.tail (.ok c rest)) : DPPiece d ts (.err 2 (hd rest).place) := by
  intro r' h'
  cases h' with
  | plain hp' => exact absurd hp' (by simp [plainPiece, hk])
  | bad _ hk' => exact absurd hk hk'
  | deep _ => exact absurd rfl hd'
  | group _ _ hc' hcl' => have := ihc _ hc'; cases this; exact absurd hcl' hcl
  | unclosed _ _ hc' _ => have := ihc _ hc'; cases this; rfl
  | inner _ _ hc' => have := ihc _ hc'; cases this

theorem d_PPiece_inner {d : Nat} {ts : List Tok} {e p : Nat} (hk : (hd ts).kind = .sign 40) (hd' : d ≠ 6) (hc : PChoice (d + 1) ts.tail (.err e p)) (ihc : DPChoice (d + 1) ts.tail (.err e p)) : DPPiece d ts (.err e p) := by
  intro r' h'
  cases h' with
  | plain hp' => exact absurd hp' (by simp [plainPiece, hk])
  | bad _ hk' => exact absurd hk hk'
  | deep _ => exact absurd rfl hd'
  | group _ _ hc' _ => have := ihc _ hc'; cases this
  | unclosed _ _ hc' _ => have := ihc _ hc'; cases this
  | inner _ _ hc' => have := ihc _ hc'; cases this; rfl

theorem d_PTerm_ok {d : Nat} {ts : List Tok} {p : Piece} {rest : List Tok} (hp : PPiece d (aheadOf ts).2 (.ok p rest)) (ihp : DPPiece d (aheadOf ts).2 (.ok p rest)) : DPTerm d ts (.ok (.mk (aheadOf ts).1 p (behindOf rest).1) (behindOf rest).2) := by
  intro r' h'
  cases h' with
  | ok hp' => have := ihp _ hp'; cases this; rfl
  | err hp' => have := ihp _ hp'; cases this

theorem d_PTerm_err {d : Nat} {ts : List Tok} {e p : Nat} (hp : PPiece d (aheadOf ts).2 (.err e p)) (ihp : DPPiece d (aheadOf ts).2 (.err e p)) : DPTerm d ts (.err e p) := by
  intro r' h'
  cases h' with
  | ok hp' => have := ihp _ hp'; cases this
  | err hp' => have := ihp _ hp'; cases this; rfl

theorem d_PSeq_nil {d : Nat} {ts : List Tok} (hb : begins d ts = false) : DPSeq d ts (.ok [] ts) := by
  intro r' h'
  cases h' with
  | nil _ => rfl
  | cons hb' _ _ => rw [hb] at hb'; cases hb'
  | err hb' _ => rw [hb] at hb'; cases hb'
  | later hb' _ _ => rw [hb] at hb'; cases hb'

theorem d_PSeq_cons {d : Nat} {ts : List Tok} {t : Term} {rest : List Tok} {s : Seq} {rest' : List Tok} (hb : begins d ts = true) (ht : PTerm d ts (.ok t rest)) (hs : PSeq d rest (.ok s rest')) (iht : DPTerm d ts (.ok t rest)) (ihs : DPSeq d rest (.ok s rest')) : DPSeq d ts (.ok (t :: s) rest') := by
  intro r' h'
  cases h' with
  | nil hb' => rw [hb] at hb'; cases hb'
  | cons _ ht' hs' => have := iht _ ht'; cases this; have := ihs _ hs'; cases this; rfl
  | err _ ht' => have := iht _ ht'; cases this
  | later _ ht' hs' => have := iht _ ht'; cases this; have := ihs _ hs'; cases this

theorem d_PSeq_err {d : Nat} {ts : List Tok} {e p : Nat} (hb : begins d ts = true) (ht : PTerm d ts (.err e p)) (iht : DPTerm d ts (.err e p)) : DPSeq d ts (.err e p) := by
  intro r' h'
  cases h' with
  | nil hb' => rw [hb] at hb'; cases hb'
  | cons _ ht' _ => have := iht _ ht'; cases this
  | err _ ht' => have := iht _ ht'; cases this; rfl
  | later _ ht' _ => have := iht _ ht'; cases this

theorem d_PSeq_later {d : Nat} {ts : List Tok} {t : Term} {rest : List Tok} {e p : Nat} (hb : begins d ts = true) (ht : PTerm d ts (.ok t rest)) (hs : PSeq d rest (.err e p)) (iht : DPTerm d ts (.ok t rest)) (ihs : DPSeq d rest (.err e p)) : DPSeq d ts (.err e p) := by
  intro r' h'
  cases h' with
  | nil hb' => rw [hb] at hb'; cases hb'
  | cons _ ht' hs' => have := iht _ ht'; cases this; have := ihs _ hs'; cases this
  | err _ ht' => have := iht _ ht'; cases this
  | later _ ht' hs' => have := iht _ ht'; cases this; have := ihs _ hs'; cases this; rfl

theorem d_PChoice_last {d : Nat} {ts : List Tok} {s : Seq} {rest : List Tok} (hs : PSeq d ts (.ok s rest)) (hk : (hd rest).kind ≠ .sign 47) (ihs : DPSeq d ts (.ok s rest)) : DPChoice d ts (.ok [s] rest) := by
  intro r' h'
  cases h' with
  | last hs' _ => have := ihs _ hs'; cases this; rfl
  | more hs' hk' _ => have := ihs _ hs'; cases this; exact absurd hk' hk
  | err hs' => have := ihs _ hs'; cases this
  | later hs' hk' _ => have := ihs _ hs'; cases this; exact absurd hk' hk

theorem d_PChoice_more {d : Nat} {ts : List Tok} {s : Seq} {rest : List Tok} {c : Choice} {rest' : List Tok} (hs : PSeq d ts (.ok s rest)) (hk : (hd rest).kind = .sign 47) (hc : PChoice d rest.tail (.ok c rest')) (ihs : DPSeq d ts (.ok s rest)) (ihc : DPChoice d rest.tail (.ok c rest')) : DPChoice d ts (.ok (s :: c) rest') := by
  intro r' h'
  cases h' with
  | last hs' hk' => have := ihs _ hs'; cases this; exact absurd hk hk'
  | more hs' _ hc' => have := ihs _ hs'; cases this; have := ihc _ hc'; cases this; rfl
  | err hs' => have := ihs _ hs'; cases this
  | later hs' _ hc' => have := ihs _ hs'; cases this; have := ihc _ hc'; cases this

theorem d_PChoice_err {d : Nat} {ts : List Tok} {e p : Nat} (hs : PSeq d ts (.err e p)) (ihs : DPSeq d ts (.err e p)) : DPChoice d ts (.err e p) := by
  intro r' h'
  cases h' with
  | last hs' _ => have := ihs _ hs'; cases this
  | more hs' _ _ => have := ihs _ hs'; cases this
  | err hs' => have := ihs _ hs'; cases this; rfl
  | later hs' _ _ => have := ihs _ hs'; cases this

theorem d_PChoice_later {d : Nat} {ts : List Tok} {s : Seq} {rest : List Tok} {e p : Nat} (hs : PSeq d ts (.ok s rest)) (hk : (hd rest).kind = .sign 47) (hc : PChoice d rest.tail (.err e p)) (ihs : DPSeq d ts (.ok s rest)) (ihc : DPChoice d rest.tail (.err e p)) : DPChoice d ts (.err e p) := by
  intro r' h'
  cases h' with
  | last hs' hk' => have := ihs _ hs'; cases this; exact absurd hk hk'
  | more hs' _ hc' => have := ihs _ hs'; cases this; have := ihc _ hc'; cases this
  | err hs' => have := ihs _ hs'; cases this
  | later hs' _ hc' => have := ihs _ hs'; cases this; have := ihc _ hc'; cases this; rfl

theorem PPiece.det {d : Nat} {ts : List Tok} {r r' : Res Piece} (h : PPiece d ts r) (h' : PPiece d ts r') : r = r' := by
  refine (PPiece.rec (motive_1 := fun d ts r _ => DPPiece d ts r) (motive_2 := fun d ts r _ => DPTerm d ts r) (motive_3 := fun d ts r _ => DPSeq d ts r) (motive_4 := fun d ts r _ => DPChoice d ts r) ?_ ?_ ?_ ?_ ?_ ?_ ?_ ?_ ?_ ?_ ?_ ?_ ?_ ?_ ?_ ?_ h : DPPiece d ts r) _ h'
  · intros; apply d_PPiece_plain <;> assumption
  · intros; apply d_PPiece_bad <;> assumption
  · intros; apply d_PPiece_deep <;> assumption
  · intros; apply d_PPiece_group <;> assumption
  · intros; apply d_PPiece_unclosed <;> assumption
  · intros; apply d_PPiece_inner <;> assumption
  · intros; apply d_PTerm_ok <;> assumption
  · intros; apply d_PTerm_err <;> assumption
  · intros; apply d_PSeq_nil <;> assumption
  · intros; apply d_PSeq_cons <;> assumption
  · intros; apply d_PSeq_err <;> assumption
  · intros; apply d_PSeq_later <;> assumption
  · intros; apply d_PChoice_last <;> assumption
  · intros; apply d_PChoice_more <;> assumption
  · intros; apply d_PChoice_err <;> assumption
  · intros; apply d_PChoice_later <;> assumption

theorem PTerm.det {d : Nat} {ts : List Tok} {r r' : Res Term} (h : PTerm d ts r) (h' : PTerm d ts r') : r = r' := by
  refine (PTerm.rec (motive_1 := fun d ts r _ => DPPiece d ts r) (motive_2 := fun d ts r _ => DPTerm d ts r) (motive_3 := fun d ts r _ => DPSeq d ts r) (motive_4 := fun d ts r _ => DPChoice d ts r) ?_ ?_ ?_ ?_ ?_ ?_ ?_ ?_ ?_ ?_ ?_ ?_ ?_ ?_ ?_ ?_ h : DPTerm d ts r) _ h'
  · intros; apply d_PPiece_plain <;> assumption
  · intros; apply d_PPiece_bad <;> assumption
  · intros; apply d_PPiece_deep <;> assumption
  · intros; apply d_PPiece_group <;> assumption
  · intros; apply d_PPiece_unclosed <;> assumption
  · intros; apply d_PPiece_inner <;> assumption
  · intros; apply d_PTerm_ok <;> assumption
  · intros; apply d_PTerm_err <;> assumption
  · intros; apply d_PSeq_nil <;> assumption
  · intros; apply d_PSeq_cons <;> assumption
  · intros; apply d_PSeq_err <;> assumption
  · intros; apply d_PSeq_later <;> assumption
  · intros; apply d_PChoice_last <;> assumption
  · intros; apply d_PChoice_more <;> assumption
  · intros; apply d_PChoice_err <;> assumption
  · intros; apply d_PChoice_later <;> assumption

theorem PSeq.det {d : Nat} {ts : List Tok} {r r' : Res Seq} (h : PSeq d ts r) (h' : PSeq d ts r') : r = r' := by
  refine (PSeq.rec (motive_1 := fun d ts r _ => DPPiece d ts r) (motive_2 := fun d ts r _ => DPTerm d ts r) (motive_3 := fun d ts r _ => DPSeq d ts r) (motive_4 := fun d ts r _ => DPChoice d ts r) ?_ ?_ ?_ ?_ ?_ ?_ ?_ ?_ ?_ ?_ ?_ ?_ ?_ ?_ ?_ ?_ h : DPSeq d ts r) _ h'
  · intros; apply d_PPiece_plain <;> assumption
  · intros; apply d_PPiece_bad <;> assumption
  · intros; apply d_PPiece_deep <;> assumption
  · intros; apply d_PPiece_group <;> assumption
  · intros; apply d_PPiece_unclosed <;> assumption
  · intros; apply d_PPiece_inner <;> assumption
  · intros; apply d_PTerm_ok <;> assumption
  · intros; apply d_PTerm_err <;> assumption
  · intros; apply d_PSeq_nil <;> assumption
  · intros; apply d_PSeq_cons <;> assumption
  · intros; apply d_PSeq_err <;> assumption
  · intros; apply d_PSeq_later <;> assumption
  · intros; apply d_PChoice_last <;> assumption
  · intros; apply d_PChoice_more <;> assumption
  · intros; apply d_PChoice_err <;> assumption
  · intros; apply d_PChoice_later <;> assumption

theorem PChoice.det {d : Nat} {ts : List Tok} {r r' : Res Choice} (h : PChoice d ts r) (h' : PChoice d ts r') : r = r' := by
  refine (PChoice.rec (motive_1 := fun d ts r _ => DPPiece d ts r) (motive_2 := fun d ts r _ => DPTerm d ts r) (motive_3 := fun d ts r _ => DPSeq d ts r) (motive_4 := fun d ts r _ => DPChoice d ts r) ?_ ?_ ?_ ?_ ?_ ?_ ?_ ?_ ?_ ?_ ?_ ?_ ?_ ?_ ?_ ?_ h : DPChoice d ts r) _ h'
  · intros; apply d_PPiece_plain <;> assumption
  · intros; apply d_PPiece_bad <;> assumption
  · intros; apply d_PPiece_deep <;> assumption
  · intros; apply d_PPiece_group <;> assumption
  · intros; apply d_PPiece_unclosed <;> assumption
  · intros; apply d_PPiece_inner <;> assumption
  · intros; apply d_PTerm_ok <;> assumption
  · intros; apply d_PTerm_err <;> assumption
  · intros; apply d_PSeq_nil <;> assumption
  · intros; apply d_PSeq_cons <;> assumption
  · intros; apply d_PSeq_err <;> assumption
  · intros; apply d_PSeq_later <;> assumption
  · intros; apply d_PChoice_last <;> assumption
  · intros; apply d_PChoice_more <;> assumption
  · intros; apply d_PChoice_err <;> assumption
  · intros; apply d_PChoice_later <;> assumption

theorem PRule.det {n : Nat} {ts : List Tok} {r r' : Res Rule} (h : PRule n ts r) (h' : PRule n ts r') : r = r' := by
  cases h with
  | noName hk => cases h' <;> first | rfl | contradiction
  | many hk ha => cases h' <;> first | rfl | contradiction
  | noArrow hk ha => cases h' <;> first | rfl | contradiction
  | ok hk ha hn hc =>
    cases h' with
    | noName hk' => exact absurd hk hk'
    | many _ _ => exact absurd rfl hn
    | noArrow _ ha' => exact absurd ha ha'
    | ok _ _ _ hc' => have := hc.det hc'; cases this; rfl
    | err _ _ _ hc' => have := hc.det hc'; cases this
  | err hk ha hn hc =>
    cases h' with
    | noName hk' => exact absurd hk hk'
    | many _ _ => exact absurd rfl hn
    | noArrow _ ha' => exact absurd ha ha'
    | ok _ _ _ hc' => have := hc.det hc'; cases this
    | err _ _ _ hc' => have := hc.det hc'; cases this; rfl

theorem PGram.det {n : Nat} {ts : List Tok} {r : Except (Nat × Nat) (List Rule)} (h : PGram n ts r) : ∀ {r'}, PGram n ts r' → r = r' := by
  induction h with
  | last hr hk =>
    intro r' h'
    cases h' with
    | last hr' _ => have := hr.det hr'; cases this; rfl
    | more hr' hk' _ => have := hr.det hr'; cases this; exact absurd hk hk'
    | err hr' => have := hr.det hr'; cases this
    | later hr' hk' _ => have := hr.det hr'; cases this; exact absurd hk hk'
  | more hr hk _ ih =>
    intro r' h'
    cases h' with
    | last hr' hk' => have := hr.det hr'; cases this; exact absurd hk' hk
    | more hr' _ hg' => have := hr.det hr'; cases this; have := ih hg'; cases this; rfl
    | err hr' => have := hr.det hr'; cases this
    | later hr' _ hg' => have := hr.det hr'; cases this; have := ih hg'; cases this
  | err hr =>
    intro r' h'
    cases h' with
    | last hr' _ => have := hr.det hr'; cases this
    | more hr' _ _ => have := hr.det hr'; cases this
    | err hr' => have := hr.det hr'; cases this; rfl
    | later hr' _ _ => have := hr.det hr'; cases this
  | later hr hk _ ih =>
    intro r' h'
    cases h' with
    | last hr' hk' => have := hr.det hr'; cases this; exact absurd hk' hk
    | more hr' _ hg' => have := hr.det hr'; cases this; have := ih hg'; cases this
    | err hr' => have := hr.det hr'; cases this
    | later hr' _ hg' => have := hr.det hr'; cases this; have := ih hg'; cases this; rfl
end Thk
namespace Thk

/-- An expression of the reference. -/
structure RE where
  kind : Nat
  items : List Span
  text : Bytes
  rule : Int
  parts : List Nat

/-- A choice that is being read. -/
structure OP where
  seqs : List Nat
  terms : List Nat
  sign : Bytes

structure ST where
  xs : List RE
  rs : List (Bytes × Nat)
  os : List OP
  sign : Bytes
  may : Bool

def sgnKind (b : Bytes) : Nat := if b = [63] then 7 else if b = [42] then 8 else if b = [43] then 9 else if b = [38] then 10 else 11
def wrapE (k e : Nat) : RE := ⟨k, [], [], 0, [e]⟩
def ST.add (S : ST) (e : RE) : ST := { S with xs := S.xs ++ [e] }
def ST.top (S : ST) : OP := S.os.getLastD ⟨[], [], []⟩
def ST.setTop (S : ST) (o : OP) : ST := { S with os := S.os.dropLast ++ [o] }
def ST.push (S : ST) (e : Nat) : ST := { S.setTop { S.top with terms := S.top.terms ++ [e] } with may := true }
def ST.term (S : ST) (e : Nat) (sign : Bytes) : ST := if sign = [] then S.push e else (S.add (wrapE (sgnKind sign) e)).push S.xs.length
def RE.z : RE := ⟨0, [], [], 0, []⟩
def ST.behind (S : ST) (sign : Bytes) : ST :=
  let k := S.top.terms.getLastD 0
  let x := S.xs.getD k RE.z
  if x.kind = 10 ∨ x.kind = 11 then
    { S with xs := (S.xs ++ [wrapE (sgnKind sign) (x.parts.headD 0)]).set k { x with parts := [S.xs.length] }, may := false }
  else { (S.add (wrapE (sgnKind sign) k)).setTop { S.top with terms := S.top.terms.dropLast ++ [S.xs.length] } with may := false }
def ST.slash (S : ST) : ST := (S.add ⟨5, [], [], 0, S.top.terms⟩).setTop ⟨S.top.seqs ++ [S.xs.length], [], S.top.sign⟩
def ST.closed (S : ST) : ST := ({ S.slash with os := S.os.dropLast } : ST).add ⟨6, [], [], 0, S.top.seqs ++ [S.xs.length]⟩
end Thk
namespace Thk

def exprOf (t : Tok) : RE :=
  match t.kind with
  | .name => ⟨4, [], t.text, 0, []⟩
  | .lit => ⟨1, t.text.map (fun c => (c, c)), [], 0, []⟩
  | .cls => ⟨2, t.spans, [], 0, []⟩
  | _ => ⟨3, [], [], 0, []⟩

def ST.rule (S : ST) : ST := if S.rs = [] then S else { S.closed with rs := S.rs.dropLast ++ [((S.rs.getLastD ([], 0)).1, S.xs.length + 1)] }

/-- A piece that is no group is laid. -/
def ST.lay (S : ST) (e : RE) : ST := (({ S with sign := [] } : ST).add e).term S.xs.length S.sign

def ST.signs (S : ST) (c : UInt8) : Except Nat ST :=
  if c = 47 then (if S.sign = [] then .ok { S.slash with may := false } else .error 2)
  else if c = 38 ∨ c = 33 then (if S.sign = [] then .ok { S with sign := [c], may := false } else .error 2)
  else if c = 63 ∨ c = 42 ∨ c = 43 then (if S.may = true then .ok (S.behind [c]) else .error 2)
  else if c = 40 then (if 6 < S.os.length then .error 3 else .ok { S with os := S.os ++ [⟨[], [], S.sign⟩], sign := [], may := false })
  else if c = 41 then (if S.sign = [] ∧ 2 ≤ S.os.length then .ok (S.closed.term (S.xs.length + 1) S.top.sign) else .error 2)
  else .ok (S.lay ⟨3, [], [], 0, []⟩)

def ST.begin (S : ST) (b : Bytes) : ST := { S.rule with rs := S.rule.rs ++ [(b, 0)], os := S.rule.os ++ [⟨[], [], []⟩], may := false }

/-- The reference's reading of tokens. -/
def run : List Tok → ST → Except (Nat × Nat) ST
  | [], _ => .error (0, 0)
  | t :: rest, S =>
    match t.kind with
    | .bad => .error (2, t.place)
    | .fin => if S.rs = [] ∨ S.sign ≠ [] ∨ 1 < S.os.length then .error (2, t.place) else .ok S.rule
    | .arrow => .error (2, t.place)
    | .sign c => if S.rs = [] then .error (2, t.place) else
      match S.signs c with
      | .error e => .error (e, t.place)
      | .ok S' => run rest S'
    | .lit => if S.rs = [] then .error (2, t.place) else run rest (S.lay (exprOf t))
    | .cls => if S.rs = [] then .error (2, t.place) else run rest (S.lay (exprOf t))
    | .name =>
      match rest with
      | [] => .error (0, 0)
      | m :: rest' =>
        if m.kind.isArrow then
          (if S.sign ≠ [] ∨ 1 < S.os.length then .error (2, m.place) else if 20 ≤ S.rs.length then .error (4, m.place) else run rest' (S.begin t.text))
        else if S.rs = [] then .error (2, m.place) else run (m :: rest') (S.lay (exprOf t))

theorem run_bad {t : Tok} {rest : List Tok} {S : ST} (h : t.kind = .bad) : run (t :: rest) S = .error (2, t.place) := by
  unfold run; simp only [h]
theorem run_fin {t : Tok} {rest : List Tok} {S : ST} (h : t.kind = .fin) : run (t :: rest) S = if S.rs = [] ∨ S.sign ≠ [] ∨ 1 < S.os.length then .error (2, t.place) else .ok S.rule := by
  unfold run; simp only [h]
theorem run_arrow {t : Tok} {rest : List Tok} {S : ST} (h : t.kind = .arrow) : run (t :: rest) S = .error (2, t.place) := by
  unfold run; simp only [h]
theorem run_sign {t : Tok} {rest : List Tok} {S : ST} {c : UInt8} (h : t.kind = .sign c) (hr : S.rs ≠ []) : run (t :: rest) S = match S.signs c with
      | .error e => .error (e, t.place)
      | .ok S' => run rest S' := by
  rw [run.eq_def]; simp only [h, if_neg hr]
theorem run_lit {t : Tok} {rest : List Tok} {S : ST} (h : t.kind = .lit) (hr : S.rs ≠ []) : run (t :: rest) S = run rest (S.lay (exprOf t)) := by
  rw [run.eq_def]; simp only [h, if_neg hr]
theorem run_cls {t : Tok} {rest : List Tok} {S : ST} (h : t.kind = .cls) (hr : S.rs ≠ []) : run (t :: rest) S = run rest (S.lay (exprOf t)) := by
  rw [run.eq_def]; simp only [h, if_neg hr]
theorem run_name {t m : Tok} {rest : List Tok} {S : ST} (h : t.kind = .name) (hr : S.rs ≠ []) (ha : m.kind.isArrow = false) : run (t :: m :: rest) S = run (m :: rest) (S.lay (exprOf t)) := by
  rw [run]; simp only [h, ha, if_neg hr, Bool.false_eq_true, if_false]
theorem run_begin {t m : Tok} {rest : List Tok} {S : ST} (h : t.kind = .name) (ha : m.kind.isArrow = true) : run (t :: m :: rest) S = if S.sign ≠ [] ∨ 1 < S.os.length then .error (2, m.place) else if 20 ≤ S.rs.length then .error (4, m.place) else run rest (S.begin t.text) := by
  rw [run]; simp only [h, ha, if_true]

/-- A row of tokens that ends with the one that is none. -/
def Wf : List Tok → Prop
  | [] => False
  | t :: r => (∀ c, t.kind = .sign c → signB c = true) ∧ if t.kind.last then r = [] else Wf r

theorem Wf.form {ts : List Tok} (h : Wf ts) : ∃ t r, ts = t :: r ∧ (∀ c, t.kind = .sign c → signB c = true) ∧ (t.kind.last = false → Wf r) := by
  cases ts with
  | nil => exact h.elim
  | cons t r => exact ⟨t, r, rfl, h.1, fun hl => by have := h.2; rw [if_neg (by simp [hl])] at this; exact this⟩

def behindTok (ts : List Tok) : Prop := (hd ts).kind = .sign 63 ∨ (hd ts).kind = .sign 42 ∨ (hd ts).kind = .sign 43

mutual
def DenP (xs : List RE) (k : Nat) : Piece → Prop
  | .name b => xs[k]? = some ⟨4, [], b, 0, []⟩
  | .lit b => xs[k]? = some ⟨1, b.map (fun c => (c, c)), [], 0, []⟩
  | .cls l => xs[k]? = some ⟨2, l, [], 0, []⟩
  | .any => xs[k]? = some ⟨3, [], [], 0, []⟩
  | .group c => ∃ qs, xs[k]? = some ⟨6, [], [], 0, qs⟩ ∧ DenC xs qs c
def DenT (xs : List RE) (k : Nat) : Term → Prop
  | .mk a p b => ∃ i j, (if a = 0 then k = i else xs[k]? = some (wrapE (sgnKind [a]) i)) ∧ (if b = 0 then i = j else xs[i]? = some (wrapE (sgnKind [b]) j)) ∧ DenP xs j p ∧ (b = 0 ∨ b = 63 ∨ b = 42 ∨ b = 43) ∧ (a = 0 ∨ a = 38 ∨ a = 33)
def DenS (xs : List RE) : List Nat → List Term → Prop
  | ks, [] => ks = []
  | ks, t :: s => ∃ k ks', ks = k :: ks' ∧ DenT xs k t ∧ DenS xs ks' s
def DenC (xs : List RE) : List Nat → List (List Term) → Prop
  | qs, [] => qs = []
  | qs, s :: c => ∃ q qs' ks, qs = q :: qs' ∧ xs[q]? = some ⟨5, [], [], 0, ks⟩ ∧ DenS xs ks s ∧ DenC xs qs' c
 end

theorem pre_get {xs ys : List RE} (h : xs <+: ys) {k : Nat} {e : RE} (hk : xs[k]? = some e) : ys[k]? = some e := by
  obtain ⟨zs, rfl⟩ := h
  rw [List.getElem?_append_left (List.getElem?_eq_some_iff.1 hk).1]; exact hk

mutual
theorem DenP.mono {xs ys : List RE} (h : xs <+: ys) {k : Nat} : ∀ p : Piece, DenP xs k p → DenP ys k p
  | .name b => by simp only [DenP]; exact pre_get h
  | .lit b => by simp only [DenP]; exact pre_get h
  | .cls l => by simp only [DenP]; exact pre_get h
  | .any => by simp only [DenP]; exact pre_get h
  | .group c => by
    simp only [DenP]
    rintro ⟨qs, h1, h2⟩
    exact ⟨qs, pre_get h h1, DenC.mono h c h2⟩
theorem DenT.mono {xs ys : List RE} (h : xs <+: ys) {k : Nat} : ∀ t : Term, DenT xs k t → DenT ys k t
  | .mk a p b => by
    simp only [DenT]
    rintro ⟨i, j, h1, h2, h3, h4⟩
    refine ⟨i, j, ?_, ?_, DenP.mono h p h3, h4⟩
    · split
      · rename_i ha; rw [if_pos ha] at h1; exact h1
      · rename_i ha; rw [if_neg ha] at h1; exact pre_get h h1
    · split
      · rename_i ha; rw [if_pos ha] at h2; exact h2
      · rename_i ha; rw [if_neg ha] at h2; exact pre_get h h2
theorem DenS.mono {xs ys : List RE} (h : xs <+: ys) : ∀ {ks : List Nat} (s : List Term), DenS xs ks s → DenS ys ks s
  | ks, [] => by simp only [DenS]; exact id
  | ks, t :: s => by
    simp only [DenS]
    rintro ⟨k, ks', h1, h2, h3⟩
    exact ⟨k, ks', h1, DenT.mono h t h2, DenS.mono h s h3⟩
theorem DenC.mono {xs ys : List RE} (h : xs <+: ys) : ∀ {qs : List Nat} (c : List (List Term)), DenC xs qs c → DenC ys qs c
  | qs, [] => by simp only [DenC]; exact id
  | qs, s :: c => by
    simp only [DenC]
    rintro ⟨q, qs', ks, h1, h2, h3, h4⟩
    exact ⟨q, qs', ks, h1, pre_get h h2, DenS.mono h s h3, DenC.mono h c h4⟩
 end
end Thk
namespace Thk

theorem term_xs (T : ST) (j : Nat) (sg : Bytes) : (T.term j sg).xs = if sg = [] then T.xs else T.xs ++ [wrapE (sgnKind sg) j] := by
  unfold ST.term; split <;> simp [ST.push, ST.setTop, ST.add]
theorem term_os (T : ST) (j : Nat) (sg : Bytes) {pre : List OP} {o : OP} (h : T.os = pre ++ [o]) : (T.term j sg).os = pre ++ [{ o with terms := o.terms ++ [if sg = [] then j else T.xs.length] }] := by
  unfold ST.term; split
  · rename_i hs; simp [ST.push, ST.setTop, ST.top, h, List.getLastD_concat, hs]
  · rename_i hs; simp [ST.push, ST.setTop, ST.top, ST.add, h, List.getLastD_concat]
theorem term_rs (T : ST) (j : Nat) (sg : Bytes) : (T.term j sg).rs = T.rs := by
  unfold ST.term; split <;> simp [ST.push, ST.setTop, ST.add]
theorem term_sign (T : ST) (j : Nat) (sg : Bytes) : (T.term j sg).sign = T.sign := by
  unfold ST.term; split <;> simp [ST.push, ST.setTop, ST.add]
theorem term_may (T : ST) (j : Nat) (sg : Bytes) : (T.term j sg).may = true := by
  unfold ST.term; split <;> simp [ST.push]

/-- A piece has been laid, with the sign ahead of it. -/
structure Laid (S : ST) (pre : List OP) (o : OP) (pc : Piece) (S' : ST) (xs1 : List RE) (j : Nat) : Prop where
  ext : S.xs <+: xs1
  den : DenP xs1 j pc
  xs : S'.xs = if S.sign = [] then xs1 else xs1 ++ [wrapE (sgnKind S.sign) j]
  os : S'.os = pre ++ [{ o with terms := o.terms ++ [if S.sign = [] then j else xs1.length] }]
  rs : S'.rs = S.rs
  sign : S'.sign = []
  may : S'.may = true

/-- Where a piece may stand. -/
structure PcAt (d : Nat) (ts : List Tok) (S : ST) (pre : List OP) (o : OP) : Prop where
  wf : Wf ts
  os : S.os = pre ++ [o]
  len : pre.length = d
  rs : S.rs ≠ []
  deep : d ≤ 6
  sg : S.sign = [] ∨ ((S.sign = [38] ∨ S.sign = [33]) ∧ S.may = false)
  here : S.sign = [] → begins d ts = true ∧ (hd ts).kind ≠ .sign 38 ∧ (hd ts).kind ≠ .sign 33

def MPc (d : Nat) (ts : List Tok) (r : Res Piece) : Prop := ∀ S pre o, PcAt d ts S pre o →
  match r with
  | .err e p => run ts S = .error (e, p)
  | .ok pc rest => Wf rest ∧ ∃ S' xs1 j, run ts S = run rest S' ∧ Laid S pre o pc S' xs1 j

/-- Where a term or a sequence may stand. -/
structure SqAt (d : Nat) (ts : List Tok) (S : ST) (pre : List OP) (o : OP) : Prop where
  wf : Wf ts
  os : S.os = pre ++ [o]
  len : pre.length = d
  rs : S.rs ≠ []
  deep : d ≤ 6
  sign : S.sign = []
  may : S.may = true → ¬ behindTok ts

def MTm (d : Nat) (ts : List Tok) (r : Res Term) : Prop := ∀ S pre o, SqAt d ts S pre o → begins d ts = true →
  match r with
  | .err e p => run ts S = .error (e, p)
  | .ok t rest => ∃ S' k, run ts S = run rest S' ∧ S'.rs = S.rs ∧ SqAt d rest S' pre { o with terms := o.terms ++ [k] } ∧ S.xs <+: S'.xs ∧ DenT S'.xs k t

def MSq (d : Nat) (ts : List Tok) (r : Res Seq) : Prop := ∀ S pre o, SqAt d ts S pre o →
  match r with
  | .err e p => run ts S = .error (e, p)
  | .ok s rest => begins d rest = false ∧ ∃ S' ks, run ts S = run rest S' ∧ S'.rs = S.rs ∧ SqAt d rest S' pre { o with terms := o.terms ++ ks } ∧ S.xs <+: S'.xs ∧ DenS S'.xs ks s

def MCh (d : Nat) (ts : List Tok) (r : Res Choice) : Prop := ∀ S pre o, SqAt d ts S pre o → o.terms = [] →
  match r with
  | .err e p => run ts S = .error (e, p)
  | .ok c rest => begins d rest = false ∧ (hd rest).kind ≠ .sign 47 ∧ ∃ S' qs ks c0 s, run ts S = run rest S' ∧ S'.rs = S.rs ∧ SqAt d rest S' pre ⟨o.seqs ++ qs, ks, o.sign⟩ ∧ S.xs <+: S'.xs ∧ c = c0 ++ [s] ∧ DenC S'.xs qs c0 ∧ DenS S'.xs ks s

theorem lay_laid {d : Nat} {ts : List Tok} {S : ST} {pre : List OP} {o : OP} (h : PcAt d ts S pre o) {e : RE} {pc : Piece} (hd : DenP (S.xs ++ [e]) S.xs.length pc) : Laid S pre o pc (S.lay e) (S.xs ++ [e]) S.xs.length := by
  have e1 : (({ S with sign := [] } : ST).add e).xs = S.xs ++ [e] := rfl
  have e2 : (({ S with sign := [] } : ST).add e).os = pre ++ [o] := h.os
  refine ⟨⟨[e], rfl⟩, hd, ?_, ?_, ?_, ?_, ?_⟩
  · unfold ST.lay; rw [term_xs, e1]
  · unfold ST.lay; rw [term_os _ _ _ e2, e1]
  · unfold ST.lay; rw [term_rs]; rfl
  · unfold ST.lay; rw [term_sign]; rfl
  · unfold ST.lay; rw [term_may]

theorem get_last {xs : List RE} {e : RE} : (xs ++ [e])[xs.length]? = some e := by simp

theorem m_plain {d : Nat} {ts : List Tok} {p : Piece} (hp : plainPiece (hd ts) = some p) : MPc d ts (.ok p ts.tail) := by
  intro S pre o h
  obtain ⟨t, r, rfl, hok, hr⟩ := h.wf.form
  simp only [hd, List.headD_cons] at hp
  simp only [List.tail_cons]
  have hos : S.os.length = d + 1 := by rw [h.os]; simp [h.len]
  have hrs := h.rs
  cases hk : t.kind with
  | name =>
    simp only [plainPiece, hk, Option.some.injEq] at hp
    subst hp
    have hw := hr (by rw [hk]; rfl)
    have hE : DenP (S.xs ++ [exprOf t]) S.xs.length (.name t.text) := by
      simp only [DenP, get_last, exprOf, hk]
    refine ⟨hw, S.lay (exprOf t), S.xs ++ [exprOf t], S.xs.length, ?_, lay_laid h hE⟩
    obtain ⟨m, r', rfl, _⟩ := hw.form
    by_cases ha : m.kind.isArrow = true
    · have hka : m.kind = .arrow := by
        cases hm : m.kind <;> simp [hm, TK.isArrow] at ha ⊢
      have h2 : S.sign ≠ [] ∨ 1 < S.os.length := by
        by_cases hs : S.sign = []
        · right
          have hb := (h.here hs).1
          simp only [begins, hd, List.headD_cons, hk, List.tail_cons, ha] at hb
          have : d ≠ 0 := by
            intro e; subst e; simp at hb
          omega
        · exact .inl hs
      rw [run_begin hk ha, if_pos h2, run_arrow hka]
    · exact run_name hk hrs (by simpa using ha)
  | lit =>
    simp only [plainPiece, hk, Option.some.injEq] at hp
    subst hp
    have hE : DenP (S.xs ++ [exprOf t]) S.xs.length (.lit t.text) := by simp only [DenP, get_last, exprOf, hk]
    refine ⟨hr (by rw [hk]; rfl), S.lay (exprOf t), S.xs ++ [exprOf t], S.xs.length, run_lit hk hrs, lay_laid h hE⟩
  | cls =>
    simp only [plainPiece, hk, Option.some.injEq] at hp
    subst hp
    have hE : DenP (S.xs ++ [exprOf t]) S.xs.length (.cls t.spans) := by simp only [DenP, get_last, exprOf, hk]
    refine ⟨hr (by rw [hk]; rfl), S.lay (exprOf t), S.xs ++ [exprOf t], S.xs.length, run_cls hk hrs, lay_laid h hE⟩
  | sign c =>
    simp only [plainPiece, hk] at hp
    split at hp
    · rename_i hc
      subst hc
      simp only [Option.some.injEq] at hp
      subst hp
      have hE : DenP (S.xs ++ [⟨3, [], [], 0, []⟩]) S.xs.length .any := by simp only [DenP, get_last]
      refine ⟨hr (by rw [hk]; rfl), S.lay ⟨3, [], [], 0, []⟩, S.xs ++ [⟨3, [], [], 0, []⟩], S.xs.length, ?_, lay_laid h hE⟩
      rw [run_sign hk hrs]; simp [ST.signs]
    · cases hp
  | fin => simp [plainPiece, hk] at hp
  | bad => simp [plainPiece, hk] at hp
  | arrow => simp [plainPiece, hk] at hp

theorem sign9 {c : UInt8} (h : signB c = true) : c = 47 ∨ c = 38 ∨ c = 33 ∨ c = 63 ∨ c = 42 ∨ c = 43 ∨ c = 40 ∨ c = 41 ∨ c = 46 := by
  simpa [signB] using h

theorem m_bad {d : Nat} {ts : List Tok} (hn : plainPiece (hd ts) = none) (hk4 : (hd ts).kind ≠ .sign 40) : MPc d ts (.err 2 (hd ts).place) := by
  intro S pre o h
  obtain ⟨t, r, rfl, hok, hr⟩ := h.wf.form
  simp only [hd, List.headD_cons] at hn hk4 ⊢
  have hrs := h.rs
  have hs : S.sign ≠ [] ∧ S.may = false := by
    rcases h.sg with hs | ⟨hs, hm⟩
    · exfalso
      obtain ⟨hb, h38, h33⟩ := h.here hs
      simp only [hd, List.headD_cons] at h38 h33
      simp only [begins, hd, List.headD_cons] at hb
      cases hk : t.kind with
      | sign c =>
        simp only [hk] at hb hk4 h38 h33
        simp only [plainPiece, hk] at hn
        have h1 : c ≠ 46 := by intro e; subst e; simp at hn
        have h2 : c ≠ 40 := by intro e; subst e; exact hk4 rfl
        have h3 : c ≠ 38 := by intro e; subst e; exact h38 rfl
        have h4 : c ≠ 33 := by intro e; subst e; exact h33 rfl
        simp [h1, h2, h3, h4] at hb
      | name => simp [plainPiece, hk] at hn
      | lit => simp [plainPiece, hk] at hn
      | cls => simp [plainPiece, hk] at hn
      | fin => simp [hk] at hb
      | bad => simp [hk] at hb
      | arrow => simp [hk] at hb
    · exact ⟨by rcases hs with hs | hs <;> rw [hs] <;> simp, hm⟩
  obtain ⟨hs, hm⟩ := hs
  cases hk : t.kind with
  | sign c =>
    simp only [plainPiece, hk] at hn
    have h1 : c ≠ 46 := by intro e; subst e; simp at hn
    have h2 : c ≠ 40 := by intro e; subst e; exact hk4 hk
    rw [run_sign hk hrs]
    rcases sign9 (hok c hk) with rfl | rfl | rfl | rfl | rfl | rfl | rfl | rfl | rfl <;> simp [ST.signs, hs, hm] at h1 h2 ⊢
  | name => simp [plainPiece, hk] at hn
  | lit => simp [plainPiece, hk] at hn
  | cls => simp [plainPiece, hk] at hn
  | fin => rw [run_fin hk]; simp [hs]
  | bad => rw [run_bad hk]
  | arrow => rw [run_arrow hk]

theorem m_deep {ts : List Tok} (hk : (hd ts).kind = .sign 40) : MPc 6 ts (.err 3 (hd ts).place) := by
  intro S pre o h
  obtain ⟨t, r, rfl, hok, hr⟩ := h.wf.form
  simp only [hd, List.headD_cons] at hk ⊢
  have hos : S.os.length = 7 := by rw [h.os]; simp [h.len]
  rw [run_sign hk h.rs]; simp [ST.signs, hos]

/-- What stands where no choice goes on, within brackets. -/
theorem end_err {d : Nat} {ts : List Tok} {S : ST} {pre : List OP} {o : OP} (h : SqAt d ts S pre o) (hd0 : d ≠ 0) (hb : begins d ts = false) (h47 : (hd ts).kind ≠ .sign 47) (h41 : (hd ts).kind ≠ .sign 41) : run ts S = .error (2, (hd ts).place) := by
  obtain ⟨t, r, rfl, hok, hr⟩ := h.wf.form
  have hmay := h.may
  simp only [hd, List.headD_cons, behindTok] at hb h47 h41 hmay ⊢
  have hrs := h.rs
  have hos : 1 < S.os.length := by rw [h.os]; simp [h.len]; omega
  simp only [begins, hd, List.headD_cons] at hb
  cases hk : t.kind with
  | sign c =>
    simp only [hk] at hb h47 h41 hmay
    rw [run_sign hk hrs]
    rcases sign9 (hok c hk) with rfl | rfl | rfl | rfl | rfl | rfl | rfl | rfl | rfl <;> simp [ST.signs] at hb h47 h41 hmay ⊢ <;> simp [hmay]
  | name => simp [hk, hd0] at hb
  | lit => simp [hk] at hb
  | cls => simp [hk] at hb
  | fin => rw [run_fin hk]; simp [hos]
  | bad => rw [run_bad hk]
  | arrow => rw [run_arrow hk]

theorem group_start {d : Nat} {ts : List Tok} {S : ST} {pre : List OP} {o : OP} (h : PcAt d ts S pre o) (hk : (hd ts).kind = .sign 40) (hd6 : d ≠ 6) :
    run ts S = run ts.tail { S with os := S.os ++ [⟨[], [], S.sign⟩], sign := [], may := false } ∧ SqAt (d + 1) ts.tail { S with os := S.os ++ [⟨[], [], S.sign⟩], sign := [], may := false } (pre ++ [o]) ⟨[], [], S.sign⟩ := by
  obtain ⟨t, r, rfl, hok, hr⟩ := h.wf.form
  simp only [hd, List.headD_cons] at hk
  have hos : S.os.length = d + 1 := by rw [h.os]; simp [h.len]
  have hdp := h.deep
  refine ⟨?_, ⟨hr (by rw [hk]; rfl), by simp [h.os], by simp [h.len], h.rs, by omega, rfl, by simp⟩⟩
  have : ¬ 6 < S.os.length := by omega
  simp only [List.tail_cons]
  rw [run_sign hk h.rs]; simp [ST.signs, this]

theorem slash_os {S : ST} {pre : List OP} {o : OP} (h : S.os = pre ++ [o]) : S.slash.os = pre ++ [⟨o.seqs ++ [S.xs.length], [], o.sign⟩] ∧ S.slash.xs = S.xs ++ [⟨5, [], [], 0, o.terms⟩] ∧ S.slash.rs = S.rs ∧ S.slash.sign = S.sign := by
  simp [ST.slash, ST.setTop, ST.add, ST.top, h, List.getLastD_concat]

theorem closed_os {S : ST} {pre : List OP} {o : OP} (h : S.os = pre ++ [o]) : S.closed.os = pre ∧ S.closed.xs = S.xs ++ [⟨5, [], [], 0, o.terms⟩] ++ [⟨6, [], [], 0, o.seqs ++ [S.xs.length]⟩] ∧ S.closed.rs = S.rs ∧ S.closed.sign = S.sign := by
  obtain ⟨h1, h2, h3, h4⟩ := slash_os h
  simp [ST.closed, ST.add, h2, h3, h4, ST.top, h, List.getLastD_concat]

theorem DenC.snoc {xs : List RE} : ∀ {qs : List Nat} (c : List (List Term)) {q : Nat} {ks : List Nat} {s : List Term}, DenC xs qs c → xs[q]? = some ⟨5, [], [], 0, ks⟩ → DenS xs ks s → DenC xs (qs ++ [q]) (c ++ [s])
  | qs, [], q, ks, s => by
    intro h h1 h2
    simp only [DenC] at h
    subst h
    simp only [List.nil_append, DenC]
    exact ⟨q, [], ks, rfl, h1, h2, rfl⟩
  | qs, s0 :: c, q, ks, s => by
    intro h h1 h2
    simp only [DenC] at h
    obtain ⟨q0, qs', ks', rfl, g1, g2, g3⟩ := h
    simp only [List.cons_append, DenC]
    exact ⟨q0, qs' ++ [q], ks', rfl, g1, g2, DenC.snoc c g3 h1 h2⟩

theorem m_group {d : Nat} {ts : List Tok} {c : Choice} {rest : List Tok} (hk : (hd ts).kind = .sign 40) (hd6 : d ≠ 6) (hcl : (hd rest).kind = .sign 41) (ih : MCh (d + 1) ts.tail (.ok c rest)) : MPc d ts (.ok (.group c) rest.tail) := by
  intro S pre o h
  obtain ⟨h1, h2⟩ := group_start h hk hd6
  obtain ⟨_, _, S', qs, ks, c0, s, e1, er, e2, e3, rfl, e5, e6⟩ := ih _ _ _ h2 rfl
  obtain ⟨t, r, rfl, hok, hr⟩ := e2.wf.form
  simp only [hd, List.headD_cons] at hcl
  simp only [List.nil_append] at e2
  obtain ⟨f1, f2, f3, f4⟩ := closed_os e2.os
  have hos : 2 ≤ S'.os.length := by rw [e2.os]; simp
  have htop : S'.top.sign = S.sign := by simp [ST.top, e2.os, List.getLastD_concat]
  have hxs1 : S'.xs <+: S'.closed.xs := by rw [f2]; exact ⟨[⟨5, [], [], 0, ks⟩, ⟨6, [], [], 0, qs ++ [S'.xs.length]⟩], by simp⟩
  refine ⟨hr (by rw [hcl]; rfl), S'.closed.term (S'.xs.length + 1) S.sign, S'.closed.xs, S'.xs.length + 1, ?_, ?_⟩
  · rw [h1, e1]
    rw [run_sign hcl e2.rs]; simp [ST.signs, e2.sign, hos, htop]
  · refine ⟨e3.trans hxs1, ?_, term_xs _ _ _, term_os _ _ _ f1, ?_, ?_, term_may _ _ _⟩
    · simp only [DenP]
      refine ⟨qs ++ [S'.xs.length], by rw [f2]; simp, DenC.snoc c0 (DenC.mono hxs1 c0 e5) (ks := ks) (by rw [f2]; simp) (DenS.mono hxs1 s e6)⟩
    · rw [term_rs, f3, er]
    · rw [term_sign, f4]; exact e2.sign
end Thk
namespace Thk

theorem m_unclosed {d : Nat} {ts : List Tok} {c : Choice} {rest : List Tok} (hk : (hd ts).kind = .sign 40) (hd6 : d ≠ 6) (hcl : (hd rest).kind ≠ .sign 41) (ih : MCh (d + 1) ts.tail (.ok c rest)) : MPc d ts (.err 2 (hd rest).place) := by
  intro S pre o h
  obtain ⟨h1, h2⟩ := group_start h hk hd6
  obtain ⟨hb, h47, S', qs, ks, c0, s, e1, er, e2, _⟩ := ih _ _ _ h2 rfl
  show run ts S = _
  rw [h1, e1]
  exact end_err e2 (by omega) hb h47 hcl

theorem m_inner {d : Nat} {ts : List Tok} {e p : Nat} (hk : (hd ts).kind = .sign 40) (hd6 : d ≠ 6) (ih : MCh (d + 1) ts.tail (.err e p)) : MPc d ts (.err e p) := by
  intro S pre o h
  obtain ⟨h1, h2⟩ := group_start h hk hd6
  show run ts S = _
  rw [h1]
  exact ih _ _ _ h2 rfl

theorem DenP.kind {xs : List RE} {j : Nat} {p : Piece} (h : DenP xs j p) : ∃ x, xs[j]? = some x ∧ ¬ (x.kind = 10 ∨ x.kind = 11) := by
  cases p with
  | name b => simp only [DenP] at h; exact ⟨_, h, by simp⟩
  | lit b => simp only [DenP] at h; exact ⟨_, h, by simp⟩
  | cls l => simp only [DenP] at h; exact ⟨_, h, by simp⟩
  | any => simp only [DenP] at h; exact ⟨_, h, by simp⟩
  | group c => simp only [DenP] at h; obtain ⟨qs, h, _⟩ := h; exact ⟨_, h, by simp⟩

theorem behindOf_some {t : Tok} {r : List Tok} {b : UInt8} (hk : t.kind = .sign b) (hb : b = 63 ∨ b = 42 ∨ b = 43) : behindOf (t :: r) = (b, r) := by
  unfold behindOf; simp only [hd, List.headD_cons, hk]
  rw [if_pos hb]; rfl

theorem behindOf_none {ts : List Tok} (h : ¬ behindTok ts) : behindOf ts = (0, ts) := by
  unfold behindOf
  split
  · rename_i c hc
    rw [if_neg]
    rintro (rfl | rfl | rfl)
    · exact h (.inl hc)
    · exact h (.inr (.inl hc))
    · exact h (.inr (.inr hc))
  · rfl

/-- The sign behind. -/
theorem behind_part {d : Nat} {S : ST} {pre : List OP} {o : OP} {pc : Piece} {S' : ST} {xs1 : List RE} {j : Nat} {rest : List Tok} {a : UInt8} (h : Laid S pre o pc S' xs1 j) (hw : Wf rest) (hlen : pre.length = d) (hrs : S.rs ≠ []) (hdp : d ≤ 6)
    (ha : (a = 0 ∧ S.sign = []) ∨ (S.sign = [a] ∧ (a = 38 ∨ a = 33))) :
    ∃ S2 k, run rest S' = run (behindOf rest).2 S2 ∧ S2.rs = S.rs ∧ SqAt d (behindOf rest).2 S2 pre { o with terms := o.terms ++ [k] } ∧ S.xs <+: S2.xs ∧ DenT S2.xs k (.mk a pc (behindOf rest).1) := by
  obtain ⟨x, hx1, hx2⟩ := h.den.kind
  have hjl : j < xs1.length := (List.getElem?_eq_some_iff.1 hx1).1
  by_cases hbt : behindTok rest
  · obtain ⟨t, r, rfl, hok, hr⟩ := hw.form
    obtain ⟨b, hk, hb⟩ : ∃ b, t.kind = .sign b ∧ (b = 63 ∨ b = 42 ∨ b = 43) := by
      simp only [behindTok, hd, List.headD_cons] at hbt
      rcases hbt with hk | hk | hk
      · exact ⟨63, hk, .inl rfl⟩
      · exact ⟨42, hk, .inr (.inl rfl)⟩
      · exact ⟨43, hk, .inr (.inr rfl)⟩
    have hb0 : b ≠ 0 := by rcases hb with rfl | rfl | rfl <;> decide
    rw [behindOf_some hk hb]
    have hrun : run (t :: r) S' = run r (S'.behind [b]) := by
      rw [run_sign hk (by rw [h.rs]; exact hrs)]
      rcases hb with rfl | rfl | rfl <;> simp [ST.signs, h.may]
    have htop : S'.top = { o with terms := o.terms ++ [if S.sign = [] then j else xs1.length] } := by simp [ST.top, h.os, List.getLastD_concat]
    have hlast : S'.top.terms.getLastD 0 = if S.sign = [] then j else xs1.length := by rw [htop]; simp [List.getLastD_concat]
    rcases ha with ⟨rfl, hs⟩ | ⟨hs, ha⟩
    · -- no sign ahead
      rw [if_pos hs] at hlast
      have hxs : S'.xs = xs1 := by rw [h.xs, if_pos hs]
      have hgd : S'.xs.getD j RE.z = x := by rw [hxs, List.getD_eq_getElem?_getD, hx1]; rfl
      have hbe : S'.behind [b] = { (S'.add (wrapE (sgnKind [b]) j)).setTop { S'.top with terms := S'.top.terms.dropLast ++ [S'.xs.length] } with may := false } := by
        unfold ST.behind; simp only [hlast, hgd, if_neg hx2]
      refine ⟨S'.behind [b], xs1.length, hrun, ?_, ⟨hr (by rw [hk]; rfl), ?_, hlen, ?_, hdp, ?_, ?_⟩, ?_, ?_⟩
      · rw [hbe]; exact h.rs
      · rw [hbe]; simp [ST.setTop, ST.add, htop, h.os, hs, hxs]
      · rw [hbe]; simp [ST.setTop, ST.add, h.rs, hrs]
      · rw [hbe]; simp [ST.setTop, ST.add, h.sign]
      · rw [hbe]; simp
      · rw [hbe]; simp only [ST.setTop, ST.add, hxs]; exact h.ext.trans ⟨[wrapE (sgnKind [b]) j], rfl⟩
      · rw [hbe]; simp only [ST.setTop, ST.add, hxs, DenT]
        refine ⟨xs1.length, j, by simp, ?_, DenP.mono ⟨[wrapE (sgnKind [b]) j], rfl⟩ _ h.den, .inr hb, .inl (by trivial)⟩
        rw [if_neg hb0]; exact get_last
    · -- a sign ahead
      have hs0 : S.sign ≠ [] := by rw [hs]; simp
      have ha0 : a ≠ 0 := by rcases ha with rfl | rfl <;> decide
      rw [if_neg hs0] at hlast
      have hxs : S'.xs = xs1 ++ [wrapE (sgnKind [a]) j] := by rw [h.xs, if_neg hs0, hs]
      have hgd : S'.xs.getD xs1.length RE.z = wrapE (sgnKind [a]) j := by rw [hxs, List.getD_eq_getElem?_getD, get_last]; rfl
      have hak : (wrapE (sgnKind [a]) j).kind = 10 ∨ (wrapE (sgnKind [a]) j).kind = 11 := by
        rcases ha with rfl | rfl
        · left; rfl
        · right; rfl
      have hbe : S'.behind [b] = { S' with xs := (S'.xs ++ [wrapE (sgnKind [b]) j]).set xs1.length (wrapE (sgnKind [a]) S'.xs.length), may := false } := by
        unfold ST.behind; simp only [hlast, hgd, if_pos hak]; rfl
      have hx' : (S'.xs ++ [wrapE (sgnKind [b]) j]).set xs1.length (wrapE (sgnKind [a]) S'.xs.length) = xs1 ++ [wrapE (sgnKind [a]) (xs1.length + 1), wrapE (sgnKind [b]) j] := by
        rw [hxs]; simp
      refine ⟨S'.behind [b], xs1.length, hrun, ?_, ⟨hr (by rw [hk]; rfl), ?_, hlen, ?_, hdp, ?_, ?_⟩, ?_, ?_⟩
      · rw [hbe]; exact h.rs
      · rw [hbe]; simp [h.os, hs0]
      · rw [hbe]; simp [h.rs, hrs]
      · rw [hbe]; simp [h.sign]
      · rw [hbe]; simp
      · rw [hbe]; simp only [hx']; exact h.ext.trans ⟨_, rfl⟩
      · rw [hbe]; simp only [hx', DenT]
        refine ⟨xs1.length + 1, j, ?_, ?_, DenP.mono ⟨_, rfl⟩ _ h.den, .inr hb, .inr ha⟩
        · rw [if_neg ha0]; simp
        · rw [if_neg hb0]; simp
  · rw [behindOf_none hbt]
    rcases ha with ⟨rfl, hs⟩ | ⟨hs, ha⟩
    · have hxs : S'.xs = xs1 := by rw [h.xs, if_pos hs]
      refine ⟨S', j, rfl, h.rs, ⟨hw, by rw [h.os, if_pos hs], hlen, by rw [h.rs]; exact hrs, hdp, h.sign, fun _ => hbt⟩, by rw [hxs]; exact h.ext, ?_⟩
      simp only [DenT]
      exact ⟨j, j, by simp, by simp, by rw [hxs]; exact h.den, .inl (by trivial), .inl (by trivial)⟩
    · have hs0 : S.sign ≠ [] := by rw [hs]; simp
      have ha0 : a ≠ 0 := by rcases ha with rfl | rfl <;> decide
      have hxs : S'.xs = xs1 ++ [wrapE (sgnKind [a]) j] := by rw [h.xs, if_neg hs0, hs]
      refine ⟨S', xs1.length, rfl, h.rs, ⟨hw, by rw [h.os, if_neg hs0], hlen, by rw [h.rs]; exact hrs, hdp, h.sign, fun _ => hbt⟩, by rw [hxs]; exact h.ext.trans ⟨_, rfl⟩, ?_⟩
      simp only [DenT]
      refine ⟨j, j, ?_, by simp, by rw [hxs]; exact DenP.mono ⟨_, rfl⟩ _ h.den, .inl (by trivial), .inr ha⟩
      rw [if_neg ha0, hxs]; exact get_last

theorem ahead_part {d : Nat} {ts : List Tok} {S : ST} {pre : List OP} {o : OP} (h : SqAt d ts S pre o) (hb : begins d ts = true) :
    ∃ S1, run ts S = run (aheadOf ts).2 S1 ∧ S1.xs = S.xs ∧ S1.rs = S.rs ∧ PcAt d (aheadOf ts).2 S1 pre o ∧ (((aheadOf ts).1 = 0 ∧ S1.sign = []) ∨ (S1.sign = [(aheadOf ts).1] ∧ ((aheadOf ts).1 = 38 ∨ (aheadOf ts).1 = 33))) := by
  obtain ⟨t, r, rfl, hok, hr⟩ := h.wf.form
  by_cases hc : ∃ c, t.kind = .sign c ∧ (c = 38 ∨ c = 33)
  · obtain ⟨c, hk, hc⟩ := hc
    have e : aheadOf (t :: r) = (c, r) := by
      unfold aheadOf; simp only [hd, List.headD_cons, hk]; rw [if_pos hc]; rfl
    rw [e]
    refine ⟨{ S with sign := [c], may := false }, ?_, rfl, rfl, ⟨hr (by rw [hk]; rfl), h.os, h.len, h.rs, h.deep, .inr ⟨by rcases hc with rfl | rfl <;> simp, rfl⟩, fun he => by simp at he⟩, .inr ⟨rfl, hc⟩⟩
    rw [run_sign hk h.rs]
    rcases hc with rfl | rfl <;> simp [ST.signs, h.sign]
  · have e : aheadOf (t :: r) = (0, t :: r) := by
      unfold aheadOf; simp only [hd, List.headD_cons]
      split
      · rename_i c hk
        rw [if_neg]
        intro h'
        exact hc ⟨c, hk, h'⟩
      · rfl
    rw [e]
    refine ⟨S, rfl, rfl, rfl, ⟨h.wf, h.os, h.len, h.rs, h.deep, .inl h.sign, fun _ => ⟨hb, ?_, ?_⟩⟩, .inl ⟨rfl, h.sign⟩⟩
    · intro hk; exact hc ⟨38, hk, .inl rfl⟩
    · intro hk; exact hc ⟨33, hk, .inr rfl⟩

theorem m_termOk {d : Nat} {ts : List Tok} {p : Piece} {rest : List Tok} (ih : MPc d (aheadOf ts).2 (.ok p rest)) : MTm d ts (.ok (.mk (aheadOf ts).1 p (behindOf rest).1) (behindOf rest).2) := by
  intro S pre o h hb
  obtain ⟨S1, h1, h2, h3, h4, h5⟩ := ahead_part h hb
  obtain ⟨hw, S', xs1, j, g1, g2⟩ := ih S1 pre o h4
  obtain ⟨S2, k, k1, k2, k3, k4, k5⟩ := behind_part g2 hw h4.len h4.rs h4.deep h5
  exact ⟨S2, k, by rw [h1, g1, k1], by rw [k2, h3], k3, by rw [← h2]; exact k4, k5⟩

theorem m_termErr {d : Nat} {ts : List Tok} {e p : Nat} (ih : MPc d (aheadOf ts).2 (.err e p)) : MTm d ts (.err e p) := by
  intro S pre o h hb
  obtain ⟨S1, h1, h2, h3, h4, h5⟩ := ahead_part h hb
  show run ts S = _
  rw [h1]; exact ih S1 pre o h4

theorem m_seqNil {d : Nat} {ts : List Tok} (hb : begins d ts = false) : MSq d ts (.ok [] ts) := by
  intro S pre o h
  refine ⟨hb, S, [], rfl, rfl, ?_, List.prefix_refl _, by simp [DenS]⟩
  simpa using h

theorem m_seqCons {d : Nat} {ts : List Tok} {t : Term} {rest : List Tok} {s : Seq} {rest' : List Tok} (hb : begins d ts = true) (iht : MTm d ts (.ok t rest)) (ihs : MSq d rest (.ok s rest')) : MSq d ts (.ok (t :: s) rest') := by
  intro S pre o h
  obtain ⟨S1, k, h1, h2, h3, h4, h5⟩ := iht S pre o h hb
  obtain ⟨hb', S2, ks, g1, g2, g3, g4, g5⟩ := ihs S1 pre _ h3
  refine ⟨hb', S2, k :: ks, by rw [h1, g1], by rw [g2, h2], by simpa using g3, h4.trans g4, ?_⟩
  simp only [DenS]
  exact ⟨k, ks, rfl, DenT.mono g4 t h5, g5⟩

theorem m_seqErr {d : Nat} {ts : List Tok} {e p : Nat} (hb : begins d ts = true) (iht : MTm d ts (.err e p)) : MSq d ts (.err e p) := fun S pre o h => iht S pre o h hb

theorem m_seqLater {d : Nat} {ts : List Tok} {t : Term} {rest : List Tok} {e p : Nat} (hb : begins d ts = true) (iht : MTm d ts (.ok t rest)) (ihs : MSq d rest (.err e p)) : MSq d ts (.err e p) := by
  intro S pre o h
  obtain ⟨S1, k, h1, h2, h3, h4, h5⟩ := iht S pre o h hb
  show run ts S = _
  rw [h1]; exact ihs S1 pre _ h3

theorem m_chLast {d : Nat} {ts : List Tok} {s : Seq} {rest : List Tok} (hk : (hd rest).kind ≠ .sign 47) (ihs : MSq d ts (.ok s rest)) : MCh d ts (.ok [s] rest) := by
  intro S pre o h ho
  obtain ⟨hb, S1, ks, h1, h2, h3, h4, h5⟩ := ihs S pre o h
  refine ⟨hb, hk, S1, [], ks, [], s, h1, h2, ?_, h4, rfl, by simp [DenC], h5⟩
  rw [ho] at h3; simpa using h3

theorem slash_part {d : Nat} {ts : List Tok} {S : ST} {pre : List OP} {o : OP} (h : SqAt d ts S pre o) (hk : (hd ts).kind = .sign 47) :
    run ts S = run ts.tail { S.slash with may := false } ∧ SqAt d ts.tail { S.slash with may := false } pre ⟨o.seqs ++ [S.xs.length], [], o.sign⟩ := by
  obtain ⟨t, r, rfl, hok, hr⟩ := h.wf.form
  simp only [hd, List.headD_cons] at hk
  obtain ⟨h1, h2, h3, h4⟩ := slash_os h.os
  refine ⟨?_, ⟨hr (by rw [hk]; rfl), h1, h.len, by simp only [h3]; exact h.rs, h.deep, by simp only [h4]; exact h.sign, by simp⟩⟩
  rw [run_sign hk h.rs]; simp [ST.signs, h.sign]

theorem m_chMore {d : Nat} {ts : List Tok} {s : Seq} {rest : List Tok} {c : Choice} {rest' : List Tok} (hk : (hd rest).kind = .sign 47) (ihs : MSq d ts (.ok s rest)) (ihc : MCh d rest.tail (.ok c rest')) : MCh d ts (.ok (s :: c) rest') := by
  intro S pre o h ho
  obtain ⟨_, S1, ks, h1, h2, h3, h4, h5⟩ := ihs S pre o h
  obtain ⟨g1, g2⟩ := slash_part h3 hk
  obtain ⟨_, f2, f3, _⟩ := slash_os h3.os
  obtain ⟨hb, h47, S2, qs, ks2, c0, s2, e1, er, e2, e3, rfl, e5, e6⟩ := ihc _ _ _ g2 rfl
  have e3' : S1.xs ++ [⟨5, [], [], 0, o.terms ++ ks⟩] <+: S2.xs := by
    have : ({ S1.slash with may := false } : ST).xs = S1.xs ++ [⟨5, [], [], 0, o.terms ++ ks⟩] := f2
    rw [← this]; exact e3
  rw [ho, List.nil_append] at e3'
  have hS1 : S1.xs <+: S2.xs := (List.prefix_append _ _).trans e3'
  refine ⟨hb, h47, S2, S1.xs.length :: qs, ks2, s :: c0, s2, by rw [h1, g1, e1], ?_, ?_, h4.trans hS1, rfl, ?_, e6⟩
  · rw [er]; show S1.slash.rs = _; rw [f3, h2]
  · simpa using e2
  · simp only [DenC]
    exact ⟨S1.xs.length, qs, ks, rfl, pre_get e3' get_last, DenS.mono hS1 s h5, e5⟩

theorem m_chErr {d : Nat} {ts : List Tok} {e p : Nat} (ihs : MSq d ts (.err e p)) : MCh d ts (.err e p) := fun S pre o h _ => ihs S pre o h

theorem m_chLater {d : Nat} {ts : List Tok} {s : Seq} {rest : List Tok} {e p : Nat} (hk : (hd rest).kind = .sign 47) (ihs : MSq d ts (.ok s rest)) (ihc : MCh d rest.tail (.err e p)) : MCh d ts (.err e p) := by
  intro S pre o h ho
  obtain ⟨_, S1, ks, h1, h2, h3, h4, h5⟩ := ihs S pre o h
  obtain ⟨g1, g2⟩ := slash_part h3 hk
  show run ts S = _
  rw [h1, g1]; exact ihc _ _ _ g2 rfl

theorem choice_sim {d : Nat} {ts : List Tok} {r : Res Choice} (h : PChoice d ts r) : MCh d ts r := by
  refine PChoice.rec (motive_1 := fun d ts r _ => MPc d ts r) (motive_2 := fun d ts r _ => MTm d ts r) (motive_3 := fun d ts r _ => MSq d ts r) (motive_4 := fun d ts r _ => MCh d ts r) ?_ ?_ ?_ ?_ ?_ ?_ ?_ ?_ ?_ ?_ ?_ ?_ ?_ ?_ ?_ ?_ h
  · intro d ts p hp; exact m_plain hp
  · intro d ts hn hk; exact m_bad hn hk
  · intro ts hk; exact m_deep hk
  · intro d ts c rest hk hd _ hcl ih; exact m_group hk hd hcl ih
  · intro d ts c rest hk hd _ hcl ih; exact m_unclosed hk hd hcl ih
  · intro d ts e p hk hd _ ih; exact m_inner hk hd ih
  · intro d ts p rest _ ih; exact m_termOk ih
  · intro d ts e p _ ih; exact m_termErr ih
  · intro d ts hb; exact m_seqNil hb
  · intro d ts t rest s rest' hb _ _ iht ihs; exact m_seqCons hb iht ihs
  · intro d ts e p hb _ iht; exact m_seqErr hb iht
  · intro d ts t rest e p hb _ _ iht ihs; exact m_seqLater hb iht ihs
  · intro d ts s rest _ hk ihs; exact m_chLast hk ihs
  · intro d ts s rest c rest' _ hk _ ihs ihc; exact m_chMore hk ihs ihc
  · intro d ts e p _ ihs; exact m_chErr ihs
  · intro d ts s rest e p _ hk _ ihs ihc; exact m_chLater hk ihs ihc
end Thk
namespace Thk

def DenR (xs : List RE) : List (Bytes × Nat) → List Rule → Prop
  | [], [] => True
  | x :: rs, r :: g => x.1 = r.name ∧ DenP xs x.2 (.group r.choice) ∧ DenR xs rs g
  | _, _ => False

theorem DenR.mono {xs ys : List RE} (h : xs <+: ys) : ∀ (rs : List (Bytes × Nat)) (g : List Rule), DenR xs rs g → DenR ys rs g
  | [], [] => id
  | x :: rs, r :: g => fun ⟨h1, h2, h3⟩ => ⟨h1, DenP.mono h _ h2, DenR.mono h rs g h3⟩
  | [], _ :: _ => fun h => h.elim
  | _ :: _, [] => fun h => h.elim

theorem DenR.snoc {xs : List RE} : ∀ (rs : List (Bytes × Nat)) (g : List Rule) {b : Bytes} {k : Nat} {r : Rule}, DenR xs rs g → b = r.name → DenP xs k (.group r.choice) → DenR xs (rs ++ [(b, k)]) (g ++ [r])
  | [], [], _, _, _ => fun _ h1 h2 => ⟨h1, h2, trivial⟩
  | x :: rs, r0 :: g, _, _, _ => fun ⟨h0, h1, h2⟩ h3 h4 => ⟨h0, h1, DenR.snoc rs g h2 h3 h4⟩
  | [], _ :: _, _, _, _ => fun h => h.elim
  | _ :: _, [], _, _, _ => fun h => h.elim

def S0 : ST := ⟨[], [], [], [], false⟩

/-- Behind a rule: the next one has not begun. -/
structure Btw (n : Nat) (ts : List Tok) (S : ST) (g0 : List Rule) : Prop where
  at0 : ∃ o, SqAt 0 ts S [] o ∧ ∃ rr nm c0 s gg, g0 = gg ++ [⟨nm, c0 ++ [s]⟩] ∧ S.rs = rr ++ [(nm, 0)] ∧ rr.length + 1 = n ∧ DenR S.xs rr gg ∧ DenC S.xs o.seqs c0 ∧ DenS S.xs o.terms s
  none : begins 0 ts = false
  slash : (hd ts).kind ≠ .sign 47

def Start (n : Nat) (ts : List Tok) (S : ST) (g0 : List Rule) : Prop := (n = 0 ∧ S = S0 ∧ g0 = [] ∧ Wf ts) ∨ Btw n ts S g0

theorem Start.wf {n : Nat} {ts : List Tok} {S : ST} {g0 : List Rule} (h : Start n ts S g0) : Wf ts := by
  rcases h with ⟨_, _, _, h⟩ | h
  · exact h
  · obtain ⟨o, h1, _⟩ := h.at0; exact h1.wf

/-- The rule that is being read ends. -/
theorem rule_part {n : Nat} {ts : List Tok} {S : ST} {g0 : List Rule} (h : Start n ts S g0) : S.rule.os = [] ∧ S.rule.rs.length = n ∧ S.rule.sign = [] ∧ DenR S.rule.xs S.rule.rs g0 ∧ S.sign = [] ∧ S.os.length ≤ 1 ∧ S.rs.length = n := by
  rcases h with ⟨rfl, rfl, rfl, _⟩ | h
  · simp [ST.rule, S0, DenR]
  · obtain ⟨o, h1, rr, nm, c0, s, gg, rfl, h3, h4, h5, h6, h7⟩ := h.at0
    have hos : S.os = [] ++ [o] := h1.os
    obtain ⟨f1, f2, f3, f4⟩ := closed_os hos
    have hrs : S.rs ≠ [] := h1.rs
    have e : S.rule = { S.closed with rs := rr ++ [(nm, S.xs.length + 1)] } := by
      unfold ST.rule; rw [if_neg hrs, h3]; simp [List.getLastD_concat]
    have hx : S.xs <+: S.closed.xs := by rw [f2, List.append_assoc]; exact List.prefix_append _ _
    rw [e]
    refine ⟨f1, by simp [h4], by simp only [f4]; exact h1.sign, ?_, h1.sign, by rw [hos]; simp, by rw [h3]; simp [h4]⟩
    refine DenR.snoc rr gg (DenR.mono hx _ _ h5) rfl ?_
    simp only [DenP]
    refine ⟨o.seqs ++ [S.xs.length], by rw [f2]; simp, DenC.snoc c0 (DenC.mono hx c0 h6) (ks := o.terms) (by rw [f2]; simp) (DenS.mono hx s h7)⟩

theorem begin_part {n : Nat} {t m : Tok} {r : List Tok} {S : ST} {g0 : List Rule} (h : Start n (t :: m :: r) S g0) (hk : t.kind = .name) (ha : m.kind = .arrow) (hn : n < 20) :
    run (t :: m :: r) S = run r (S.begin t.text) ∧ SqAt 0 r (S.begin t.text) [] ⟨[], [], []⟩ ∧ (S.begin t.text).rs = S.rule.rs ++ [(t.text, 0)] ∧ DenR (S.begin t.text).xs S.rule.rs g0 ∧ S.rule.rs.length = n := by
  obtain ⟨h1, h2, h3, h4, h5, h6, h7⟩ := rule_part h
  have hw := h.wf
  have hw1 : Wf (m :: r) := by
    have := hw.2; rw [if_neg (by simp [hk, TK.last])] at this; exact this
  have hw2 : Wf r := by
    have := hw1.2; rw [if_neg (by simp [ha, TK.last])] at this; exact this
  refine ⟨?_, ⟨hw2, by simp [ST.begin, h1], rfl, by simp [ST.begin], by omega, by simpa [ST.begin] using h3, by simp [ST.begin]⟩, rfl, h4, h2⟩
  rw [run_begin hk (by rw [ha]; rfl), if_neg (by rintro (h' | h'); exact h' h5; omega), if_neg (by omega)]

/-- A rule's choice was read. -/
theorem rule_btw {n : Nat} {t m : Tok} {r : List Tok} {S : ST} {g0 : List Rule} {c : Choice} {rest : List Tok} (h : Start n (t :: m :: r) S g0) (hk : t.kind = .name) (ha : m.kind = .arrow) (hn : n < 20) (hc : PChoice 0 r (.ok c rest)) :
    ∃ S', run (t :: m :: r) S = run rest S' ∧ Btw (n + 1) rest S' (g0 ++ [⟨t.text, c⟩]) := by
  obtain ⟨h1, h2, h3, h4, h5⟩ := begin_part h hk ha hn
  obtain ⟨hb, h47, S', qs, ks, c0, s, e1, er, e2, e3, rfl, e5, e6⟩ := choice_sim hc _ _ _ h2 rfl
  refine ⟨S', by rw [h1, e1], ⟨⟨_, e2, S.rule.rs, t.text, c0, s, g0, rfl, by rw [er, h3], by rw [h5], DenR.mono e3 _ _ h4, ?_, e6⟩, hb, h47⟩⟩
  simpa using e5

theorem rule_err {n : Nat} {t m : Tok} {r : List Tok} {S : ST} {g0 : List Rule} {e p : Nat} (h : Start n (t :: m :: r) S g0) (hk : t.kind = .name) (ha : m.kind = .arrow) (hn : n < 20) (hc : PChoice 0 r (.err e p)) : run (t :: m :: r) S = .error (e, p) := by
  obtain ⟨h1, h2, _⟩ := begin_part h hk ha hn
  rw [h1]; exact choice_sim hc _ _ _ h2 rfl

theorem no_name {n : Nat} {ts : List Tok} {S : ST} {g0 : List Rule} (h : Start n ts S g0) (hk : (hd ts).kind ≠ .name) (hf : n ≠ 0 → (hd ts).kind ≠ .fin) : run ts S = .error (2, (hd ts).place) := by
  obtain ⟨t, r, rfl, hok, hr⟩ := h.wf.form
  simp only [hd, List.headD_cons] at hk hf ⊢
  rcases h with ⟨rfl, rfl, rfl, _⟩ | h
  · cases hq : t.kind with
    | name => exact absurd hq hk
    | bad => rw [run_bad hq]
    | arrow => rw [run_arrow hq]
    | fin => rw [run_fin hq]; simp [S0]
    | sign c => rw [run.eq_def]; simp [hq, S0]
    | lit => rw [run.eq_def]; simp [hq, S0]
    | cls => rw [run.eq_def]; simp [hq, S0]
  · have hb := h.none
    have h47 := h.slash
    obtain ⟨o, h1, rr, nm, c0, s, gg, _, h3, h4, _⟩ := h.at0
    have hmay := h1.may
    have hos : S.os = [] ++ [o] := h1.os
    have hol : ¬ 2 ≤ S.os.length := by rw [hos]; simp
    simp only [begins, hd, List.headD_cons] at hb
    simp only [hd, List.headD_cons, behindTok] at h47 hmay
    cases hq : t.kind with
    | name => exact absurd hq hk
    | bad => rw [run_bad hq]
    | arrow => rw [run_arrow hq]
    | fin => exact absurd hq (hf (by omega))
    | lit => simp [hq] at hb
    | cls => simp [hq] at hb
    | sign c =>
      simp only [hq] at hb h47 hmay
      rw [run_sign hq h1.rs]
      rcases sign9 (hok c hq) with rfl | rfl | rfl | rfl | rfl | rfl | rfl | rfl | rfl <;> simp [ST.signs, hol] at hb h47 hmay ⊢ <;> simp [hmay]

theorem no_arrow {n : Nat} {ts : List Tok} {S : ST} {g0 : List Rule} (h : Start n ts S g0) (hk : (hd ts).kind = .name) (ha : (hd ts.tail).kind ≠ .arrow) : run ts S = .error (2, (hd ts.tail).place) := by
  obtain ⟨t, r, rfl, hok, hr⟩ := h.wf.form
  simp only [hd, List.headD_cons] at hk
  obtain ⟨m, r', rfl, _⟩ := (hr (by rw [hk]; rfl)).form
  simp only [hd, List.headD_cons, List.tail_cons] at ha ⊢
  have ha' : m.kind.isArrow = false := by
    cases hm : m.kind with
    | arrow => exact absurd hm ha
    | _ => rfl
  rcases h with ⟨rfl, rfl, rfl, _⟩ | h
  · rw [run.eq_def]; simp [hk, ha', S0]
  · have hb := h.none
    simp [begins, hd, hk, ha'] at hb

theorem many_rules {ts : List Tok} {S : ST} {g0 : List Rule} (h : Start 20 ts S g0) (hk : (hd ts).kind = .name) (ha : (hd ts.tail).kind = .arrow) : run ts S = .error (4, (hd ts.tail).place) := by
  obtain ⟨t, r, rfl, hok, hr⟩ := h.wf.form
  simp only [hd, List.headD_cons] at hk
  obtain ⟨m, r', rfl, _⟩ := (hr (by rw [hk]; rfl)).form
  simp only [hd, List.headD_cons, List.tail_cons] at ha ⊢
  obtain ⟨h1, h2, h3, h4, h5, h6, h7⟩ := rule_part h
  rw [run_begin hk (by rw [ha]; rfl), if_neg (by rintro (h' | h'); exact h' h5; omega), if_pos (by omega)]

/-- What a rule's reading comes to. -/
theorem rule_sim {n : Nat} {ts : List Tok} {r : Res Rule} (hp : PRule n ts r) {S : ST} {g0 : List Rule} (h : Start n ts S g0) (hn : n ≤ 20) (hf : n ≠ 0 → (hd ts).kind ≠ .fin) :
    match r with
    | .err e p => run ts S = .error (e, p)
    | .ok ru rest => ∃ S', run ts S = run rest S' ∧ Btw (n + 1) rest S' (g0 ++ [ru]) := by
  cases hp with
  | noName hk => exact no_name h hk hf
  | many hk ha => exact many_rules h hk ha
  | noArrow hk ha => exact no_arrow h hk ha
  | ok hk ha hn' hc =>
    obtain ⟨t, r, rfl, hok, hr⟩ := h.wf.form
    simp only [hd, List.headD_cons] at hk
    obtain ⟨m, r', rfl, _⟩ := (hr (by rw [hk]; rfl)).form
    exact rule_btw h hk ha (by omega) hc
  | err hk ha hn' hc =>
    obtain ⟨t, r, rfl, hok, hr⟩ := h.wf.form
    simp only [hd, List.headD_cons] at hk
    obtain ⟨m, r', rfl, _⟩ := (hr (by rw [hk]; rfl)).form
    exact rule_err h hk ha (by omega) hc

/-- THE MACHINE COMES TO WHAT THE PARSE COMES TO. -/
theorem gram_sim {n : Nat} {ts : List Tok} {res : Except (Nat × Nat) (List Rule)} (hp : PGram n ts res) : ∀ (S : ST) (g0 : List Rule), Start n ts S g0 → n ≤ 20 → (n ≠ 0 → (hd ts).kind ≠ .fin) →
    match res with
    | .error x => run ts S = .error x
    | .ok g => ∃ S', run ts S = .ok S' ∧ DenR S'.xs S'.rs (g0 ++ g) := by
  induction hp with
  | last hr hk =>
    intro S g0 h hn hf
    obtain ⟨S', h1, h2⟩ := rule_sim hr h hn hf
    obtain ⟨f1, f2, f3, f4, f5, f6, f7⟩ := rule_part (.inr h2)
    refine ⟨S'.rule, ?_, f4⟩
    obtain ⟨o, hq, _⟩ := h2.at0
    obtain ⟨t, r, rfl, _⟩ := hq.wf.form
    have hk' : t.kind = .fin := hk
    rw [h1, run_fin hk', if_neg]
    rintro (h' | h' | h')
    · exact hq.rs h'
    · exact h' f5
    · omega
  | more hr hk _ ih =>
    intro S g0 h hn hf
    rename_i n' _ _ _ _ _
    obtain ⟨S', h1, h2⟩ := rule_sim hr h hn hf
    have hn1 : n' + 1 ≤ 20 := by
      have hne : n' ≠ 20 := by
        cases hr with
        | ok _ _ h' _ => exact h'
      omega
    obtain ⟨S2, h3, h4⟩ := ih S' _ (.inr h2) hn1 (fun _ => hk)
    exact ⟨S2, by rw [h1, h3], by simpa using h4⟩
  | err hr =>
    intro S g0 h hn hf
    exact rule_sim hr h hn hf
  | later hr hk _ ih =>
    intro S g0 h hn hf
    rename_i n' _ _ _ _ _
    obtain ⟨S', h1, h2⟩ := rule_sim hr h hn hf
    have hn1 : n' + 1 ≤ 20 := by
      have hne : n' ≠ 20 := by
        cases hr with
        | ok _ _ h' _ => exact h'
      omega
    show run _ S = _
    rw [h1]
    exact ih S' _ (.inr h2) hn1 (fun _ => hk)
end Thk
namespace Thk

/-- How great a state is, behind so many tokens. -/
structure Bd (c : Nat) (S : ST) : Prop where
  xs : S.xs.length ≤ 4 * c
  os : S.os.length ≤ 7
  each : ∀ o ∈ S.os, o.terms.length ≤ c ∧ o.seqs.length ≤ c
  rs : S.rs.length ≤ 20

theorem Bd.zero : Bd 0 S0 := ⟨by simp [S0], by simp [S0], by simp [S0], by simp [S0]⟩

theorem Bd.mono {c c' : Nat} {S : ST} (h : Bd c S) (hc : c ≤ c') : Bd c' S :=
  ⟨by have := h.xs; omega, h.os, fun o ho => by have := h.each o ho; omega, h.rs⟩

theorem top_mem {S : ST} (h : S.os ≠ []) : ∃ pre o, S.os = pre ++ [o] ∧ S.top = o := by
  refine ⟨S.os.dropLast, S.os.getLast h, (List.dropLast_concat_getLast h).symm, ?_⟩
  unfold ST.top
  conv => lhs; rw [← List.dropLast_concat_getLast h]
  rw [List.getLastD_concat]

theorem Bd.top {c : Nat} {S : ST} (h : Bd c S) (hne : S.os ≠ []) : S.top.terms.length ≤ c ∧ S.top.seqs.length ≤ c := by
  obtain ⟨pre, o, h1, h2⟩ := top_mem hne
  rw [h2]; exact h.each o (by rw [h1]; simp)

/-- A term more, with at most so many expressions. -/
theorem Bd.term {c n : Nat} {T : ST} {j : Nat} {sg : Bytes} (hx : T.xs.length + 1 ≤ 4 * n) (ho : T.os.length ≤ 7) (hne : T.os ≠ []) (he : ∀ o ∈ T.os, o.terms.length ≤ c ∧ o.seqs.length ≤ c) (hr : T.rs.length ≤ 20) (hn : c + 1 ≤ n) : Bd n (T.term j sg) := by
  obtain ⟨pre, o, h1, _⟩ := top_mem hne
  refine ⟨?_, ?_, ?_, by rw [term_rs]; exact hr⟩
  · rw [term_xs]; split
    · omega
    · simp; omega
  · rw [term_os _ _ _ h1]; rw [h1] at ho; simpa using ho
  · rw [term_os _ _ _ h1]
    intro x hx'
    rcases List.mem_append.1 hx' with hx' | hx'
    · have := he x (by rw [h1]; simp [hx']); omega
    · simp only [List.mem_singleton] at hx'
      subst hx'
      have := he o (by rw [h1]; simp)
      simp; omega

theorem Bd.lay {c : Nat} {S : ST} (h : Bd c S) (hne : S.os ≠ []) (e : RE) : Bd (c + 1) (S.lay e) := by
  have hx := h.xs
  exact Bd.term (c := c) (by simp [ST.add]; omega) h.os hne h.each h.rs (Nat.le_refl _)

theorem Bd.slash {c : Nat} {S : ST} (h : Bd c S) (hne : S.os ≠ []) : Bd (c + 1) { S.slash with may := false } := by
  obtain ⟨pre, o, h1, _⟩ := top_mem hne
  obtain ⟨f1, f2, f3, f4⟩ := slash_os h1
  have hx := h.xs
  have ho := h.os
  refine ⟨by simp only [f2]; simp; omega, by simp only [f1]; rw [h1] at ho; simpa using ho, ?_, by simp only [f3]; exact h.rs⟩
  simp only [f1]
  intro x hx'
  rcases List.mem_append.1 hx' with hx' | hx'
  · have := h.each x (by rw [h1]; simp [hx']); omega
  · simp only [List.mem_singleton] at hx'
    subst hx'
    have := h.each o (by rw [h1]; simp)
    simp; omega

theorem Bd.behind {c : Nat} {S : ST} (h : Bd c S) (hne : S.os ≠ []) (b : Bytes) : Bd (c + 1) (S.behind b) := by
  obtain ⟨pre, o, h1, h2⟩ := top_mem hne
  have hx := h.xs
  have ho := h.os
  unfold ST.behind
  simp only []
  split
  · exact ⟨by simp; omega, ho, fun x hx' => by have := h.each x hx'; omega, h.rs⟩
  · refine ⟨by simp [ST.setTop, ST.add]; omega, ?_, ?_, by simp [ST.setTop, ST.add]; exact h.rs⟩
    · simp [ST.setTop, ST.add, h1] at ho ⊢; exact ho
    · simp only [ST.setTop, ST.add, h1, List.dropLast_concat]
      intro x hx'
      rcases List.mem_append.1 hx' with hx' | hx'
      · have := h.each x (by rw [h1]; simp [hx']); omega
      · simp only [List.mem_singleton] at hx'
        subst hx'
        have := h.each o (by rw [h1]; simp)
        rw [h2]; simp; omega

theorem Bd.opened {c : Nat} {S : ST} (h : Bd c S) (hd : S.os.length ≤ 6) (sg : Bytes) : Bd (c + 1) { S with os := S.os ++ [⟨[], [], sg⟩], sign := [], may := false } := by
  have hx := h.xs
  refine ⟨by simp only []; omega, by simp; omega, ?_, h.rs⟩
  intro x hx'
  rcases List.mem_append.1 hx' with hx' | hx'
  · have := h.each x hx'; omega
  · simp only [List.mem_singleton] at hx'
    subst hx'; simp

theorem Bd.closed {c : Nat} {S : ST} (h : Bd c S) (hl : 2 ≤ S.os.length) (j : Nat) (sg : Bytes) : Bd (c + 1) (S.closed.term j sg) := by
  have hne : S.os ≠ [] := by intro e; rw [e] at hl; simp at hl
  obtain ⟨pre, o, h1, _⟩ := top_mem hne
  obtain ⟨f1, f2, f3, f4⟩ := closed_os h1
  have hx := h.xs
  have ho := h.os
  rw [h1] at hl ho
  simp at hl ho
  refine Bd.term (c := c) (by rw [f2]; simp; omega) (by rw [f1]; omega) (by rw [f1]; intro e; rw [e] at hl; simp at hl) ?_ (by rw [f3]; exact h.rs) (Nat.le_refl _)
  rw [f1]
  intro x hx'
  exact h.each x (by rw [h1]; simp [hx'])

theorem Bd.begin {c : Nat} {S : ST} (h : Bd c S) (hl : S.os.length ≤ 1) (hr : S.rs.length < 20) (b : Bytes) (hor : S.rs ≠ [] → S.os ≠ []) : Bd (c + 2) (S.begin b) := by
  have hx := h.xs
  by_cases hrs : S.rs = []
  · have e : S.rule = S := by unfold ST.rule; rw [if_pos hrs]
    unfold ST.begin; rw [e]
    refine ⟨by simp only []; omega, by simp; omega, ?_, by simp; omega⟩
    intro x hx'
    rcases List.mem_append.1 hx' with hx' | hx'
    · have := h.each x hx'; omega
    · simp only [List.mem_singleton] at hx'
      subst hx'; simp
  · obtain ⟨pre, o, h1, _⟩ := top_mem (hor hrs)
    obtain ⟨f1, f2, f3, f4⟩ := closed_os h1
    have e1 : S.rule.xs = S.closed.xs := by unfold ST.rule; rw [if_neg hrs]
    have e2 : S.rule.os = S.closed.os := by unfold ST.rule; rw [if_neg hrs]
    have e3 : S.rule.rs.length = S.rs.length := by
      unfold ST.rule; rw [if_neg hrs]; simp
      have : 0 < S.rs.length := List.length_pos_iff.2 hrs
      omega
    have hpre : pre = [] := by
      rw [h1] at hl; simp at hl; exact hl
    unfold ST.begin
    refine ⟨by simp only [e1, f2]; simp; omega, by simp only [e2, f1, hpre]; simp, ?_, by simp only [List.length_append, e3]; simp; omega⟩
    simp only [e2, f1, hpre]
    intro x hx'
    simp at hx'
    subst hx'; simp
end Thk
namespace Thk

def okSign (b : Bytes) : Prop := b = [] ∨ b = [38] ∨ b = [33]

/-- What holds of every state that is come to. -/
structure StOk (S : ST) : Prop where
  sg : okSign S.sign
  osg : ∀ o ∈ S.os, okSign o.sign
  may : S.may = true → ∃ tl k x, S.top.terms = tl ++ [k] ∧ S.xs[k]? = some x ∧ ((x.kind = 10 ∨ x.kind = 11) → x.parts ≠ [])
  ne : S.rs ≠ [] → S.os ≠ []

theorem StOk.zero : StOk S0 := ⟨.inl rfl, by simp [S0], by simp [S0], by simp [S0]⟩

/-- Behind a term. -/
theorem StOk.term {T : ST} {j : Nat} {sg : Bytes} {x : RE} (hne : T.os ≠ []) (hs : okSign T.sign) (ho : ∀ o ∈ T.os, okSign o.sign) (hx : T.xs[j]? = some x) (hk : (x.kind = 10 ∨ x.kind = 11) → x.parts ≠ []) : StOk (T.term j sg) := by
  obtain ⟨pre, o, h1, _⟩ := top_mem hne
  have hos := term_os T j sg h1
  have htop : (T.term j sg).top = { o with terms := o.terms ++ [if sg = [] then j else T.xs.length] } := by unfold ST.top; rw [hos, List.getLastD_concat]
  refine ⟨by rw [term_sign]; exact hs, ?_, ?_, by rw [hos]; simp⟩
  · rw [hos]
    intro y hy
    rcases List.mem_append.1 hy with hy | hy
    · exact ho y (by rw [h1]; simp [hy])
    · simp only [List.mem_singleton] at hy
      subst hy
      exact ho o (by rw [h1]; simp)
  · intro _
    rw [htop, term_xs]
    by_cases hsg : sg = []
    · simp only [hsg, if_true]
      exact ⟨o.terms, j, x, rfl, hx, hk⟩
    · simp only [hsg, if_false]
      exact ⟨o.terms, T.xs.length, wrapE (sgnKind sg) j, rfl, get_last, by simp [wrapE]⟩

theorem StOk.lay {S : ST} (h : StOk S) (hne : S.os ≠ []) {e : RE} (he : e.kind ≠ 10 ∧ e.kind ≠ 11) : StOk (S.lay e) :=
  StOk.term (x := e) hne (.inl rfl) h.osg (by simp [ST.add]) (by rintro (h' | h'); exact absurd h' he.1; exact absurd h' he.2)

theorem exprOf_kind (t : Tok) : (exprOf t).kind ≠ 10 ∧ (exprOf t).kind ≠ 11 := by
  unfold exprOf; split <;> simp

theorem StOk.begin {S : ST} (h : StOk S) (b : Bytes) (hs : S.sign = []) : StOk (S.begin b) := by
  have hr : okSign S.rule.sign ∧ ∀ o ∈ S.rule.os, okSign o.sign := by
    by_cases hrs : S.rs = []
    · have e : S.rule = S := by unfold ST.rule; rw [if_pos hrs]
      rw [e]; exact ⟨h.sg, h.osg⟩
    · obtain ⟨pre, o, h1, _⟩ := top_mem (h.ne hrs)
      obtain ⟨f1, f2, f3, f4⟩ := closed_os h1
      have e : S.rule.sign = S.closed.sign ∧ S.rule.os = S.closed.os := by unfold ST.rule; rw [if_neg hrs]; exact ⟨rfl, rfl⟩
      rw [e.1, e.2, f1, f4]
      exact ⟨h.sg, fun y hy => h.osg y (by rw [h1]; simp [hy])⟩
  refine ⟨hr.1, ?_, by simp [ST.begin], by simp [ST.begin]⟩
  intro y hy
  rcases List.mem_append.1 hy with hy | hy
  · exact hr.2 y hy
  · simp only [List.mem_singleton] at hy
    subst hy; exact .inl rfl

theorem behind_ok {S : ST} (h : StOk S) (hne : S.os ≠ []) (b : Bytes) : StOk (S.behind b) ∧ (S.behind b).os ≠ [] ∧ (S.behind b).rs = S.rs := by
  obtain ⟨pre, o, h1, h2⟩ := top_mem hne
  unfold ST.behind
  simp only []
  split
  · exact ⟨⟨h.sg, h.osg, by simp, fun _ => hne⟩, hne, rfl⟩
  · refine ⟨⟨h.sg, ?_, by simp, by simp [ST.setTop]⟩, by simp [ST.setTop], by simp [ST.setTop, ST.add]⟩
    simp only [ST.setTop, ST.add, h1, List.dropLast_concat]
    intro y hy
    rcases List.mem_append.1 hy with hy | hy
    · exact h.osg y (by rw [h1]; simp [hy])
    · simp only [List.mem_singleton] at hy
      subst hy
      rw [h2]
      exact h.osg o (by rw [h1]; simp)

/-- What a sign leaves. -/
theorem signs_ok {S S' : ST} {c : UInt8} {n : Nat} (h : StOk S) (hb : Bd n S) (hne : S.os ≠ []) (hrs : S.rs ≠ []) (hc : signB c = true) (hs : S.signs c = .ok S') : StOk S' ∧ Bd (n + 1) S' ∧ S'.os ≠ [] ∧ S'.rs = S.rs := by
  obtain ⟨pre, o, h1, h2⟩ := top_mem hne
  rcases sign9 hc with rfl | rfl | rfl | rfl | rfl | rfl | rfl | rfl | rfl
  · simp only [ST.signs] at hs
    by_cases hg : S.sign = []
    · simp [hg] at hs
      subst hs
      obtain ⟨f1, f2, f3, f4⟩ := slash_os h1
      refine ⟨⟨by simp only [f4]; exact h.sg, ?_, by simp, by simp only [f1]; simp⟩, hb.slash hne, by simp only [f1]; simp, by simp only [f3]⟩
      simp only [f1]
      intro y hy
      rcases List.mem_append.1 hy with hy | hy
      · exact h.osg y (by rw [h1]; simp [hy])
      · simp only [List.mem_singleton] at hy
        subst hy
        exact h.osg o (by rw [h1]; simp)
    · simp [hg] at hs
  · simp only [ST.signs] at hs
    by_cases hg : S.sign = []
    · simp [hg] at hs
      subst hs
      exact ⟨⟨.inr (.inl rfl), h.osg, by simp, fun _ => hne⟩, ⟨by have := hb.xs; simp only []; omega, hb.os, fun x hx => by have := hb.each x hx; omega, hb.rs⟩, hne, rfl⟩
    · simp [hg] at hs
  · simp only [ST.signs] at hs
    by_cases hg : S.sign = []
    · simp [hg] at hs
      subst hs
      exact ⟨⟨.inr (.inr rfl), h.osg, by simp, fun _ => hne⟩, ⟨by have := hb.xs; simp only []; omega, hb.os, fun x hx => by have := hb.each x hx; omega, hb.rs⟩, hne, rfl⟩
    · simp [hg] at hs
  · by_cases hm : S.may = true
    · have e : S' = S.behind [63] := by simp [ST.signs, hm] at hs; exact hs.symm
      subst e
      obtain ⟨g1, g2, g3⟩ := behind_ok h hne [63]
      exact ⟨g1, hb.behind hne [63], g2, g3⟩
    · simp [ST.signs, hm] at hs
  · by_cases hm : S.may = true
    · have e : S' = S.behind [42] := by simp [ST.signs, hm] at hs; exact hs.symm
      subst e
      obtain ⟨g1, g2, g3⟩ := behind_ok h hne [42]
      exact ⟨g1, hb.behind hne [42], g2, g3⟩
    · simp [ST.signs, hm] at hs
  · by_cases hm : S.may = true
    · have e : S' = S.behind [43] := by simp [ST.signs, hm] at hs; exact hs.symm
      subst e
      obtain ⟨g1, g2, g3⟩ := behind_ok h hne [43]
      exact ⟨g1, hb.behind hne [43], g2, g3⟩
    · simp [ST.signs, hm] at hs
  · by_cases hd : 6 < S.os.length
    · simp [ST.signs, hd] at hs
    · have e : S' = { S with os := S.os ++ [⟨[], [], S.sign⟩], sign := [], may := false } := by simp [ST.signs, hd] at hs; exact hs.symm
      subst e
      refine ⟨⟨.inl rfl, ?_, by simp, by simp⟩, hb.opened (by omega) _, by simp, rfl⟩
      intro y hy
      rcases List.mem_append.1 hy with hy | hy
      · exact h.osg y hy
      · simp only [List.mem_singleton] at hy
        subst hy; exact h.sg
  · by_cases hd : S.sign = [] ∧ 2 ≤ S.os.length
    · have e : S' = S.closed.term (S.xs.length + 1) S.top.sign := by simp [ST.signs, hd] at hs; exact hs.symm
      subst e
      obtain ⟨f1, f2, f3, f4⟩ := closed_os h1
      have hp : pre ≠ [] := by
        intro e
        have := hd.2
        rw [h1, e] at this; simp at this
      refine ⟨StOk.term (x := ⟨6, [], [], 0, o.seqs ++ [S.xs.length]⟩) (by rw [f1]; exact hp) (by rw [f4]; exact h.sg) (by rw [f1]; exact fun y hy => h.osg y (by rw [h1]; simp [hy])) (by rw [f2]; simp) (by simp), hb.closed hd.2 _ _, ?_, by rw [term_rs, f3]⟩
      obtain ⟨pre', o', h1', _⟩ := top_mem (S := S.closed) (by rw [f1]; exact hp)
      rw [term_os _ _ _ h1']; simp
    · simp [ST.signs, hd] at hs
  · have e : S' = S.lay ⟨3, [], [], 0, []⟩ := by simp [ST.signs] at hs; exact hs.symm
    subst e
    refine ⟨h.lay hne (by simp), hb.lay hne _, ?_, ?_⟩
    · unfold ST.lay
      rw [term_os (({ S with sign := [] } : ST).add ⟨3, [], [], 0, []⟩) _ _ (pre := pre) (o := o) h1]; simp
    · unfold ST.lay; rw [term_rs]; rfl
theorem signs_err {S : ST} {c : UInt8} {er : Nat} (h : S.signs c = .error er) : er = 2 ∨ er = 3 := by
  unfold ST.signs at h
  repeat' split at h
  all_goals first | (cases h; simp; done) | cases h
end Thk
namespace Thk

/-- Its parts are among the first n. -/
def RE.Fit (n : Nat) (e : RE) : Prop := (∀ p ∈ e.parts, p < n) ∧ (6 < e.kind → ∃ p, e.parts = [p]) ∧ e.rule = 0

theorem RE.Fit.mono {n m : Nat} {e : RE} (h : e.Fit n) (hm : n ≤ m) : e.Fit m := ⟨fun p hp => Nat.lt_of_lt_of_le (h.1 p hp) hm, h.2⟩

/-- Every number of an expression is one. -/
structure Wx (S : ST) : Prop where
  ex : ∀ e ∈ S.xs, e.Fit S.xs.length
  os : ∀ o ∈ S.os, (∀ k ∈ o.terms, k < S.xs.length) ∧ ∀ k ∈ o.seqs, k < S.xs.length
  rs : ∀ r ∈ S.rs.dropLast, r.2 < S.xs.length

theorem Wx.zero : Wx S0 := ⟨by simp [S0], by simp [S0], by simp [S0]⟩

theorem Wx.top {S : ST} (h : Wx S) : (∀ k ∈ S.top.terms, k < S.xs.length) ∧ ∀ k ∈ S.top.seqs, k < S.xs.length := by
  by_cases hne : S.os = []
  · simp [ST.top, hne]
  · obtain ⟨pre, o, h1, h2⟩ := top_mem hne
    rw [h2]; exact h.os o (by rw [h1]; simp)

theorem Wx.add {S : ST} (h : Wx S) {e : RE} (he : e.Fit (S.xs.length + 1)) : Wx (S.add e) := by
  have hl : (S.add e).xs.length = S.xs.length + 1 := by simp [ST.add]
  refine ⟨?_, ?_, ?_⟩
  · rw [hl]
    intro x hx
    rcases List.mem_append.1 hx with hx | hx
    · exact (h.ex x hx).mono (by omega)
    · simp only [List.mem_singleton] at hx
      subst hx; exact he
  · rw [hl]
    intro o ho
    have := h.os o ho
    exact ⟨fun k hk => by have := this.1 k hk; omega, fun k hk => by have := this.2 k hk; omega⟩
  · rw [hl]
    intro r hr
    have := h.rs r hr
    omega

theorem Wx.setTop {S : ST} (h : Wx S) {o : OP} (h1 : ∀ k ∈ o.terms, k < S.xs.length) (h2 : ∀ k ∈ o.seqs, k < S.xs.length) : Wx (S.setTop o) := by
  refine ⟨h.ex, ?_, h.rs⟩
  intro x hx
  rcases List.mem_append.1 hx with hx | hx
  · exact h.os x (List.dropLast_subset _ hx)
  · simp only [List.mem_singleton] at hx
    subst hx; exact ⟨h1, h2⟩

theorem Wx.may {S : ST} (h : Wx S) (m : Bool) : Wx { S with may := m } := ⟨h.ex, h.os, h.rs⟩
theorem Wx.sgn {S : ST} (h : Wx S) (m : Bytes) : Wx { S with sign := m } := ⟨h.ex, h.os, h.rs⟩

theorem Wx.push {S : ST} (h : Wx S) {k : Nat} (hk : k < S.xs.length) : Wx (S.push k) := by
  refine Wx.may (h.setTop (o := { S.top with terms := S.top.terms ++ [k] }) ?_ h.top.2) true
  intro x hx
  rcases List.mem_append.1 hx with hx | hx
  · exact h.top.1 x hx
  · simp only [List.mem_singleton] at hx
    subst hx; exact hk

theorem wrapE_fit {n k e : Nat} (h : e < n) : (wrapE k e).Fit n := ⟨by intro p hp; simp [wrapE] at hp; omega, fun _ => ⟨e, rfl⟩, rfl⟩

theorem Wx.term {S : ST} (h : Wx S) {k : Nat} (hk : k < S.xs.length) (sg : Bytes) : Wx (S.term k sg) := by
  unfold ST.term
  split
  · exact h.push hk
  · exact (h.add (wrapE_fit (by omega))).push (by simp [ST.add])

theorem Wx.lay {S : ST} (h : Wx S) {e : RE} (he : e.Fit (S.xs.length + 1)) : Wx (S.lay e) := by
  unfold ST.lay
  exact Wx.term ((h.sgn []).add he) (by simp [ST.add]) _

theorem exprOf_fit (t : Tok) (n : Nat) : (exprOf t).Fit n := by
  unfold exprOf RE.Fit
  split <;> simp

theorem Wx.behind {S : ST} (h : Wx S) (b : Bytes) : Wx (S.behind b) := by
  unfold ST.behind
  simp only []
  split
  · rename_i hk
    by_cases hlt : S.top.terms.getLastD 0 < S.xs.length
    · have hx : S.xs.getD (S.top.terms.getLastD 0) RE.z = S.xs[S.top.terms.getLastD 0] := by rw [List.getD_eq_getElem?_getD, List.getElem?_eq_getElem hlt]; rfl
      rw [hx] at hk ⊢
      have hf := h.ex _ (List.getElem_mem hlt)
      obtain ⟨p, hp⟩ := hf.2.1 (by omega)
      have hpl := hf.1 p (by rw [hp]; simp)
      refine ⟨?_, ?_, ?_⟩
      · simp only [List.length_set, List.length_append, List.length_cons, List.length_nil]
        intro y hy
        rcases List.mem_or_eq_of_mem_set hy with hy | hy
        · rcases List.mem_append.1 hy with hy | hy
          · exact (h.ex y hy).mono (by omega)
          · simp only [List.mem_singleton] at hy
            subst hy
            exact wrapE_fit (by rw [hp]; simp; omega)
        · subst hy
          exact ⟨by intro q hq; simp at hq; omega, fun _ => ⟨_, rfl⟩, hf.2.2⟩
      · simp only [List.length_set, List.length_append, List.length_cons, List.length_nil]
        intro o ho
        have := h.os o ho
        exact ⟨fun k hk => by have := this.1 k hk; omega, fun k hk => by have := this.2 k hk; omega⟩
      · simp only [List.length_set, List.length_append, List.length_cons, List.length_nil]
        intro r hr
        have := h.rs r hr
        omega
    · have hx : S.xs.getD (S.top.terms.getLastD 0) RE.z = RE.z := by
        rw [List.getD_eq_getElem?_getD, List.getElem?_eq_none (by omega)]; rfl
      rw [hx] at hk
      simp [RE.z] at hk
  · refine Wx.may (S := (S.add (wrapE (sgnKind b) (S.top.terms.getLastD 0))).setTop { S.top with terms := S.top.terms.dropLast ++ [S.xs.length] }) ((h.add (wrapE_fit ?_)).setTop ?_ ?_) false
    · by_cases hn : S.top.terms = []
      · rw [hn]; simp
      · obtain ⟨l, a, hla⟩ : ∃ l a, S.top.terms = l ++ [a] := ⟨_, _, (List.dropLast_concat_getLast hn).symm⟩
        have := h.top.1 a (by rw [hla]; simp)
        rw [hla, List.getLastD_concat]; omega
    · intro k hk
      rcases List.mem_append.1 hk with hk | hk
      · have := h.top.1 k (List.dropLast_subset _ hk)
        simp [ST.add]; omega
      · simp only [List.mem_singleton] at hk
        subst hk; simp [ST.add]
    · intro k hk
      have := h.top.2 k hk
      simp [ST.add]; omega

theorem Wx.slash {S : ST} (h : Wx S) : Wx S.slash := by
  unfold ST.slash
  refine (h.add (e := ⟨5, [], [], 0, S.top.terms⟩) ⟨fun p hp => by have := h.top.1 p hp; omega, by simp, rfl⟩).setTop (by simp) ?_
  intro k hk
  rcases List.mem_append.1 hk with hk | hk
  · have := h.top.2 k hk
    simp [ST.add]; omega
  · simp only [List.mem_singleton] at hk
    subst hk; simp [ST.add]

theorem Wx.less {S : ST} (h : Wx S) {os : List OP} (ho : ∀ o ∈ os, o ∈ S.os ∨ (o.terms = [] ∧ o.seqs = [])) : Wx { S with os := os } := by
  refine ⟨h.ex, ?_, h.rs⟩
  intro o h1
  rcases ho o h1 with h2 | ⟨h2, h3⟩
  · exact h.os o h2
  · rw [h2, h3]; simp

theorem slash_len (S : ST) : S.slash.xs.length = S.xs.length + 1 := by simp [ST.slash, ST.setTop, ST.add]

theorem Wx.closed {S : ST} (h : Wx S) : Wx S.closed := by
  unfold ST.closed
  refine Wx.add (h.slash.less (os := S.os.dropLast) ?_) ⟨?_, by simp, rfl⟩
  · intro o ho
    left
    show o ∈ S.os.dropLast ++ _
    exact List.mem_append_left _ ho
  · simp only [slash_len]
    intro p hp
    rcases List.mem_append.1 hp with hp | hp
    · have := h.top.2 p hp; omega
    · simp only [List.mem_singleton] at hp
      omega

theorem closed_len (S : ST) : S.closed.xs.length = S.xs.length + 2 := by simp [ST.closed, ST.slash, ST.setTop, ST.add]

/-- Behind a rule's end every body is one. -/
theorem Wx.rule {S : ST} (h : Wx S) : Wx S.rule ∧ ∀ r ∈ S.rule.rs, r.2 < S.rule.xs.length := by
  unfold ST.rule
  split
  · rename_i hr
    exact ⟨h, by rw [hr]; simp⟩
  · have hc := h.closed
    refine ⟨⟨hc.ex, hc.os, ?_⟩, ?_⟩
    · simp only [List.dropLast_concat, closed_len]
      intro r hr
      have := h.rs r hr; omega
    · simp only [closed_len]
      intro r hr
      rcases List.mem_append.1 hr with hr | hr
      · have := h.rs r hr; omega
      · simp only [List.mem_singleton] at hr
        subst hr; simp

theorem Wx.begin {S : ST} (h : Wx S) (b : Bytes) : Wx (S.begin b) := by
  obtain ⟨h1, h2⟩ := h.rule
  refine ⟨h1.ex, ?_, ?_⟩
  · intro o ho
    rcases List.mem_append.1 ho with ho | ho
    · exact h1.os o ho
    · simp only [List.mem_singleton] at ho
      subst ho; simp
  · simp only [ST.begin, List.dropLast_concat]
    exact h2

theorem Wx.signs {S S' : ST} (h : Wx S) {c : UInt8} (hs : S.signs c = .ok S') : Wx S' := by
  unfold ST.signs at hs
  repeat' split at hs
  all_goals first
    | cases hs; done
    | (cases hs; exact h.slash.may false)
    | (cases hs; exact ⟨h.ex, h.os, h.rs⟩)
    | (cases hs; exact h.behind _)
    | (cases hs; refine ⟨h.ex, ?_, h.rs⟩; intro o ho; rcases List.mem_append.1 ho with ho | ho; exact h.os o ho; simp only [List.mem_singleton] at ho; subst ho; simp)
    | (cases hs; exact h.closed.term (by rw [closed_len]; omega) _)
    | (cases hs; exact h.lay ⟨by simp, by simp, rfl⟩)

theorem run_wx : ∀ (n : Nat) (ts : List Tok), ts.length ≤ n → ∀ S S', Wx S → run ts S = .ok S' → Wx S' ∧ ∀ r ∈ S'.rs, r.2 < S'.xs.length := by
  intro n
  induction n with
  | zero =>
    intro ts hl S S' _ hr
    have : ts = [] := List.length_eq_zero_iff.1 (by omega)
    subst this
    simp [run] at hr
  | succ n ih =>
    intro ts hl S S' h hr
    cases ts with
    | nil => simp [run] at hr
    | cons t rest =>
      simp at hl
      rw [run.eq_def] at hr
      simp only [] at hr
      cases hk : t.kind with
      | bad => simp only [hk] at hr; cases hr
      | fin =>
        simp only [hk] at hr
        split at hr
        · cases hr
        · cases hr; exact h.rule
      | arrow => simp only [hk] at hr; cases hr
      | sign c =>
        simp only [hk] at hr
        split at hr
        · cases hr
        · split at hr
          · cases hr
          · rename_i S1 hs
            exact ih rest hl S1 S' (h.signs hs) hr
      | lit =>
        simp only [hk] at hr
        split at hr
        · cases hr
        · exact ih rest hl _ S' (h.lay (exprOf_fit _ _)) hr
      | cls =>
        simp only [hk] at hr
        split at hr
        · cases hr
        · exact ih rest hl _ S' (h.lay (exprOf_fit _ _)) hr
      | name =>
        simp only [hk] at hr
        cases rest with
        | nil => simp at hr
        | cons m rest' =>
          simp only [] at hr
          simp at hl
          split at hr
          · split at hr
            · cases hr
            · split at hr
              · cases hr
              · exact ih rest' (by omega) _ S' (h.begin _) hr
          · split at hr
            · cases hr
            · exact ih (m :: rest') (by simp; omega) _ S' (h.lay (exprOf_fit _ _)) hr
end Thk
