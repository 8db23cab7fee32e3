import Derived.Test.YtiganlkabilblaaGreatDoorVU23
import Derived.Test.YtiganlkabilblaaGreatDoorVU00
import Derived.Test.YtiganlkabilblaaGreatDoorVU24
import Derived.Test.YtiganlkabilblaaGreatDoorVU14
import Derived.Test.YtiganlkabilblaaGreatDoorVU25
set_option linter.all false
set_option maxHeartbeats 64000000
set_option maxRecDepth 100000
namespace Go.Proofs.YtiganlkabilblaaGreatDoor
open Go.RowKit
abbrev gs (c:Thk.Z5):List Thk.ze:=[⟨nmS,c⟩,zk6,zjz]
theorem zkr {x:List UInt8} {dep:Nat} {c:Thk.Z5} (hx:Px x dep c) (hd:dep≤6):Thk.ZU 0 (Thk.Qn (hdB++(x++zjP))) (.ok (gs c)):=by
 rw[YZ,zkQ]
 have h1:=hx 0 5 zjP (by omega) (zlv _)
 rw[zkm] at h1
 exact .more (.ok rfl rfl (by decide) h1) (by simp[zk0,Thk.hd]) (zlr _)
theorem zla {c:Thk.Z5} {e:Bool} (hu:Thk.zx (zv K2) c=false)
  (h3:∀ E:List UInt8→Bool,E zbT=false→E zbU=false→Thk.Zl E c=e∧Thk.zx (zJ E) c=false∧∀ b ∈ Thk.ZC E c,b=zbT∨b=zbU) (x:Nat × Nat):¬ Qh (gs c) (.error x):=by
 have hn:zg (gs c)=K2:=rfl
 have hE0:∀ E,QQ K2 (gs c) E→Eb K2 E zbT=false∧Eb K2 E zbU=false:=by
  intro E hE
  have hc:QP K2 (gs c) [e,false,false]:=by
   intro i hi
   rcases lt3 hi with rfl | rfl | rfl
   ·intro h
    have:=(h3 (Eb K2 [e,false,false]) rfl rfl).1
    simp only[List.getElem_cons_zero] at h
    rw[this] at h
    simp[h]
   ·intro h;simp[Thk.Zl,Thk.ZH,Thk.Zu,Thk.Ze] at h
   ·intro h;simp[Thk.Zl,Thk.ZH,Thk.Zu,Thk.Ze] at h
  constructor
  ·have:=hE _ hc 1
   show E.getD 1 false=false
   cases h:E.getD 1 false with
   | false=>rfl
   | true=>exact absurd (this h) (by simp)
  ·have:=hE _ hc 2
   show E.getD 2 false=false
   cases h:E.getD 2 false with
   | false=>rfl
   | true=>exact absurd (this h) (by simp)
 intro h
 cases h with
 | twice h=>
  obtain⟨h1,h2,_⟩:=h
  rcases lt3 h1 with rfl | rfl | rfl<;>exact absurd h2 (by rw[hn];decide)
 | unknown _ h=>
  obtain⟨h1,h2,_⟩:=h
  rw[hn] at h2
  rcases lt3 h1 with rfl | rfl | rfl
  ·simp only[List.getElem_cons_zero] at h2
   rw[hu] at h2;cases h2
  ·simp[Thk.zx,Thk.Zc,Thk.ZG,Thk.Zi,zv,Thk.Term.piece] at h2
  ·simp[Thk.zx,Thk.Zc,Thk.ZG,Thk.Zi,zv,Thk.Term.piece] at h2
 | loop _ _ _ _ hl h=>
  rw[hn] at hl h
  obtain⟨h1,h2,_⟩:=h
  obtain⟨q1,q2⟩:=hE0 _ hl
  obtain⟨_,q3,_⟩:=h3 _ q1 q2
  rcases lt3 h1 with rfl | rfl | rfl
  ·simp only[List.getElem_cons_zero] at h2
   rw[q3] at h2;cases h2
  ·simp[Thk.zx,Thk.Zc,Thk.ZG,Thk.Zi,zJ,Thk.Term.piece,Thk.Term.behind] at h2
  ·simp[Thk.zx,Thk.Zc,Thk.ZG,Thk.Zi,zJ,Thk.Term.piece,Thk.Term.behind] at h2
 | left a1 a2 a3 a4 hl a6 h=>
  rename_i E i
  rw[hn] at hl h
  obtain⟨h1,h2,_⟩:=h
  obtain⟨q1,q2⟩:=hE0 _ hl
  obtain⟨_,_,q3⟩:=h3 _ q1 q2
  have r1:∀ j,Za K2 E (gs c) 1 j=false:=by
   intro j
   show (ZJ K2 _ (Thk.ZC (Eb K2 E) zk6.choice)).getD j false=false
   rw[zkd _ _ _ _ (by simp[Thk.ZC,Thk.Q2,Thk.JR,Thk.Zy,Thk.Zu,Thk.Ze])]
   exact zkx j
  have r2:∀ j,Za K2 E (gs c) 2 j=false:=by
   intro j
   show (ZJ K2 _ (Thk.ZC (Eb K2 E) zjz.choice)).getD j false=false
   rw[zkd _ _ _ _ (by simp[Thk.ZC,Thk.Q2,Thk.JR,Thk.Zy,Thk.Zu,Thk.Ze])]
   exact zkx j
  have r0:∀ i,Za K2 E (gs c) i 0=false:=by
   intro i
   match i with
   | 1=>exact r1 0
   | 2=>exact r2 0
   | 0=>
    show (ZJ K2 _ (Thk.ZC (Eb K2 E) c)).getD 0 false=false
    rw[zkd]
    ·rfl
    ·intro b hb
     rcases q3 b hb with rfl | rfl<;>decide
   | n+3=>rfl
  have:=Wm3 _ r1 r2 r0 i h1
  rw[show (gs c).length=3 from rfl] at h2
  rw[this] at h2;cases h2
theorem Zo.gram {l:List UInt8} {g g':List Thk.ze} {E:List Bool} (h:Zo l (.ok (g',E))) (hg:Thk.ZU 0 (Thk.Qn l) (.ok g)):g'=g:=by
 cases h with
 | ok h _=>
  cases h with
  | read _ h=>have:=h.det hg;cases this;rfl
end Go.Proofs.YtiganlkabilblaaGreatDoor
namespace Go.Proofs.YtiganlkabilblaaGreatDoor
open Thk
mutual
def inP (l:List z7):zC→Prop
 | .name b=>b ∈ l
 | .group c=>inC l c
 | .lit _=>True
 | .cls _=>True
 | .any=>True
def inT (l:List z7):Term→Prop
 | .mk _ p _=>inP l p
def inS (l:List z7):List Term→Prop
 | []=>True
 | t::s=>inT l t∧inS l s
def inC (l:List z7):List (List Term)→Prop
 | []=>True
 | s::c=>inS l s∧inC l c
end
def inX (l:List z7):Ex→Prop
 | .P p=>inP l p
 | .Q p=>inP l p
 | .I p _=>inP l p
 | .T t=>inT l t
 | .S s _=>inS l s
 | .C c=>inC l c
mutual
theorem zmb {l:List z7}:∀ p:zC,Zi (zv l) p=false→(∀ b,p = .name b→b ∈ l)→inP l p
 | .name b,_,h=>h b rfl
 | .group c,e,_=>by simp only[Zi] at e;exact zlF c e
 | .lit _,_,_=>trivial
 | .cls _,_,_=>trivial
 | .any,_,_=>trivial
theorem zmc {l:List z7}:∀ t:Term,ZG (zv l) t=false→inT l t
 | .mk a p b,e=>by
  simp only[ZG,Bool.or_eq_false_iff] at e
  refine zmb p e.2 (fun b hb=>?_)
  subst hb
  have:=e.1
  simpa [zv,Term.piece] using this
theorem zlO {l:List z7}:∀ s:List Term,Zc (zv l) s=false→inS l s
 | [],_=>trivial
 | t::s,e=>by
  simp only[Zc,Bool.or_eq_false_iff] at e
  exact⟨zmc t e.1,zlO s e.2⟩
theorem zlF {l:List z7}:∀ c:List (List Term),zx (zv l) c=false→inC l c
 | [],_=>trivial
 | s::c,e=>by
  simp only[zx,Bool.or_eq_false_iff] at e
  exact⟨zlO s e.1,zlF c e.2⟩
end
theorem zma:inC zkf zk6.choice:=by simp[inC,inS,inT,inP]
theorem zmd:inC zkf zjz.choice:=by simp[inC,inS,inT,inP]
theorem Ev.swap {c c':Z5} {inp:z7} {x:Ex} {k:Nat} {r:Out} (h:Ev (gs c) inp x k r):inX zkf x→Ev (gs c') inp x k r:=by
 induction h with
 | cnil=>intro _;exact .cnil
 | chit _ ih=>intro hi;exact .chit (ih hi.1)
 | cmiss _ _ i1 i2=>intro hi;exact .cmiss (i1 hi.1) (i2 hi.2)
 | snil=>intro _;exact .snil
 | sfail _ ih=>intro hi;exact .sfail (ih hi.1)
 | sstep _ _ i1 i2=>intro hi;exact .sstep (i1 hi.1) (i2 hi.2)
 | tplain _ ih=>intro hi;exact .tplain (ih hi)
 | tand _ ih=>intro hi;exact .tand (ih hi)
 | tnot _ ih=>intro hi;exact .tnot (ih hi)
 | iplain _ ih=>intro hi;exact .iplain (ih hi)
 | imaybe _ ih=>intro hi;exact .imaybe (ih hi)
 | istar _ ih=>intro hi;exact .istar (ih hi)
 | iplus _ ih=>intro hi;exact .iplus (ih hi)
 | qno _ ih=>intro hi;exact .qno (ih hi)
 | qlast _ _ i1 i2=>intro hi;exact .qlast (i1 hi) (i2 hi)
 | qmore _ _ i1 i2=>intro hi;exact .qmore (i1 hi) (i2 hi)
 | pname h hc _ ih=>
  intro hi
  rename_i b k r _
  have hb:b=zbT∨b=zbU:=by
   simp only[inX,inP,List.mem_cons,List.not_mem_nil,or_false] at hi
   exact hi
  rcases hb with rfl | rfl
  ·exact Ev.pname (g:=gs c') (b:=zbT) (by show idx0 K2 zbT<3;decide) (by rfl) (ih zma)
  ·exact Ev.pname (g:=gs c') (b:=zbU) (by show idx0 K2 zbU<3;decide) (by rfl) (ih zmd)
 | plit h=>intro _;exact .plit h
 | pcls h=>intro _;exact .pcls h
 | pany=>intro _;exact .pany
 | pgroup _ ih=>intro hi;exact .pgroup (ih hi)
def shN (n:Nat):Nt→Nt
 | .nil=>.nil
 | .use i a b m=>.use i (a - n) (b - n) (shN n m)
 | .pair a b=>.pair (shN n a) (shN n b)
theorem zlR (n:Nat) (a b:Nt):shN n (jn a b)=jn (shN n a) (shN n b):=by
 cases a<;>cases b<;>rfl
def shO (n:Nat):Out→Out
 | none=>none
 | some (e,m)=>some (e - n,shN n m)
def shX (n:Nat):Ex→Ex
 | .S s acc=>.S s (shN n acc)
 | x=>x
theorem zlT (n k:Nat) (b:Bool) (r:Out):shO n (Ja k b r)=Ja (k - n) b (shO n r):=by
 have:(shO n r).isSome=r.isSome:=by cases r<;>rfl
 unfold Ja
 rw[this]
 split<;>rfl
theorem zlU (n k:Nat) (r:Out):shO n (Kg k r)=Kg (k - n) (shO n r):=by
 cases r<;>rfl
theorem zlS (pre rest:z7) (k:Nat) (f:UInt8→Bool):shO pre.length (Qj (pre++rest) (pre.length+k) f)=Qj rest k f:=by
 unfold Qj
 rw[List.getElem?_append_right (by omega),Nat.add_sub_cancel_left]
 cases rest[k]? with
 | none=>rfl
 | some c=>
  simp only[]
  split
  ·simp only[shO,shN,Option.some.injEq,Prod.mk.injEq,and_true];omega
  ·rfl
theorem zmh (pre rest:z7) (k:Nat) (b:z7):shO pre.length (Ya (pre++rest) (pre.length+k) b)=Ya rest k b:=by
 unfold Ya
 rw[List.drop_append,List.drop_eq_nil_of_le (by omega),List.nil_append,Nat.add_sub_cancel_left]
 split
 ·simp only[shO,shN,Option.some.injEq,Prod.mk.injEq,and_true];omega
 ·rfl
theorem Ev.shift {g:List ze} {pre rest:z7} {x:Ex} {k0:Nat} {r:Out} (h:Ev g (pre++rest) x k0 r):∀ k,k0=pre.length+k→k≤rest.length→Ev g rest (shX pre.length x) k (shO pre.length r):=by
 have hlen:(pre++rest).length=pre.length+rest.length:=List.length_append
 induction h with
 | cnil=>intro k _ _;exact .cnil
 | chit h ih=>
  intro k hk hl
  exact .chit (ih k hk hl)
 | cmiss _ _ i1 i2=>intro k hk hl;exact .cmiss (i1 k hk hl) (i2 k hk hl)
 | snil=>
  intro k hk hl
  subst hk
  have:pre.length+k - pre.length=k:=by omega
  simp only[shO,shX,this]
  exact .snil
 | sfail _ ih=>intro k hk hl;exact .sfail (ih k hk hl)
 | sstep h1 _ i1 i2=>
  intro k hk hl
  rename_i t s acc k0 e m r _
  have hle:=h1.le (by omega) e m rfl
  have h3:=i1 k hk hl
  have h4:=i2 (e - pre.length) (by omega) (by omega)
  simp only[shX,zlR] at h4
  exact .sstep h3 h4
 | tplain _ ih=>intro k hk hl;exact .tplain (ih k hk hl)
 | tand _ ih=>
  intro k hk hl
  rw[zlT,hk,Nat.add_sub_cancel_left]
  exact .tand (ih k hk hl)
 | tnot _ ih=>
  intro k hk hl
  rw[zlT,hk,Nat.add_sub_cancel_left]
  exact .tnot (ih k hk hl)
 | iplain _ ih=>intro k hk hl;exact .iplain (ih k hk hl)
 | imaybe _ ih=>
  intro k hk hl
  rw[zlU,hk,Nat.add_sub_cancel_left]
  exact .imaybe (ih k hk hl)
 | istar _ ih=>
  intro k hk hl
  rw[zlU,hk,Nat.add_sub_cancel_left]
  exact .istar (ih k hk hl)
 | iplus _ ih=>intro k hk hl;exact .iplus (ih k hk hl)
 | qno _ ih=>intro k hk hl;exact .qno (ih k hk hl)
 | qlast h1 _ i1 i2=>
  intro k hk hl
  rename_i p k0 e m _
  have hle:=h1.le (by omega) e m rfl
  exact .qlast (i1 k hk hl) (i2 (e - pre.length) (by omega) (by omega))
 | qmore h1 _ i1 i2=>
  intro k hk hl
  rename_i p k0 e m e2 m2 _
  have hle:=h1.le (by omega) e m rfl
  have:=Ev.qmore (i1 k hk hl) (i2 (e - pre.length) (by omega) (by omega))
  simp only[shO,zlR]
  exact this
 | pname h hc h1 ih=>
  intro k hk hl
  rename_i b k0 r
  have h2:=Ev.pname h hc (ih k hk hl)
  have:shO pre.length (QZ (idx0 (zg g) b) k0 r)=QZ (idx0 (zg g) b) k (shO pre.length r):=by
   cases r with
   | none=>rfl
   | some x=>
    obtain⟨e,m⟩:=x
    have hle:=h1.le (by omega) e m rfl
    simp only[QZ,shO]
    by_cases hke:k0<e
    ·rw[if_pos hke,if_pos (by omega)]
     simp only[shO,shN]
     rw[show k0 - pre.length=k from by omega]
    ·rw[if_neg hke,if_neg (by omega)]
     rfl
  rw[this]
  exact h2
 | plit h=>intro k hk hl;subst hk;rw[zmh];exact .plit h
 | pcls h=>intro k hk hl;subst hk;rw[zlS];exact .pcls h
 | pany=>intro k hk hl;subst hk;rw[zlS];exact .pany
 | pgroup _ ih=>intro k hk hl;exact .pgroup (ih k hk hl)
def Gt (c:Z5) (e:Bool):Prop:=zx (zv zkf) c=false ∧
  ∀ E:List UInt8→Bool,E zbT=false→E zbU=false→Zl E c=e∧zx (zJ E) c=false∧∀ b ∈ ZC E c,b=zbT∨b=zbU
theorem Gx.gt {x:List UInt8} {e:Bool} {dep:Nat} (h:Gx x e dep):∃ c,Px x dep c∧Gt c e:=h
theorem Gt.names {c:Z5} {e:Bool} (h:Gt c e):inC zkf c:=zlF c h.1
theorem Zo.least {l:List UInt8} {g:List ze} {E:List Bool} (h:Zo l (.ok (g,E))):QQ (zg g) g E:=by
 cases h with
 | ok _ h=>cases h;assumption
theorem zm8 {l:List UInt8} {c:Z5} {e:Bool} (hG:ZU 0 (Qn l) (.ok (gs c))) (ht:Gt c e) (hl:l.length≤2000) {res:Except (Nat × Nat) (List ze × List Bool)} (h:Zo l res):∃ E,res = .ok (gs c,E):=by
 obtain⟨⟨g,E⟩,rfl⟩:=h.fine hl hG (zla (zlz ht.1) ht.2)
 exact⟨E,by rw[h.gram hG]⟩
section
variable {g : List ze} {inp : z7}
end
def Tk (c:Z5) (inp:z7) (n:Option Nat):Prop:=∃ o,Ev (gs c) inp (.C c) 0 o∧fin o=n
theorem Tk.of {c c0:Z5} {inp:z7} {n:Option Nat} {o:Out} (h:Tk c inp n) (hi:inC zkf c) (k:Ev (gs c0) inp (.C c) 0 o):fin o=n:=by
 obtain⟨o',h1,rfl⟩:=h
 rw[(h1.swap (c':=c0) hi).det _ k]
theorem Tk.behind {c c0:Z5} {inp:z7} {n:Option Nat} {o:Out} {k:Nat} (h:Tk c (inp.drop k) n) (hi:inC zkf c) (hk:k≤inp.length) (hE:Ev (gs c0) inp (.C c) k o):(fin o=none∧n=none)∨∃ d,n=some d∧fin o=some (k+d)∧k+d≤inp.length:=by
 have hle:=hE.le hk
 have hlen:(inp.take k).length=k:=by rw[List.length_take];omega
 have h1:Ev (gs c0) (inp.take k++inp.drop k) (.C c) k o:=by rw[List.take_append_drop];exact hE
 have h2:=h1.shift 0 (by omega) (Nat.zero_le _)
 have h3:=h.of hi h2
 rw[hlen] at h3
 cases o with
 | none=>exact .inl ⟨rfl,h3.symm⟩
 | some x=>
  obtain⟨e,m⟩:=x
  obtain⟨l1,l2⟩:=hle e m rfl
  refine .inr ⟨e - k,h3.symm,?_,by omega⟩
  show some e=some (k+(e - k))
  congr 1;omega
def wn:Nat→Nat→Nt→Prop
 | a,b,.nil=>a≤b
 | a,b,.use _ f t m=>a≤f∧f<t∧t≤b∧wn f t m
 | a,b,.pair m1 m2=>∃ c,wn a c m1∧wn c b m2
theorem zmI {m:Nt}:∀ {a b:Nat},wn a b m→a≤b:=by
 induction m with
 | nil=>intro a b h;exact h
 | use i f t m _=>intro a b h;obtain⟨h1,h2,h3,_⟩:=h;omega
 | pair m1 m2 i1 i2=>intro a b h;obtain⟨c,h1,h2⟩:=h;exact Nat.le_trans (i1 h1) (i2 h2)
theorem zmz {m:Nt}:∀ {a b a' b':Nat},wn a b m→a'≤a→b≤b'→wn a' b' m:=by
 induction m with
 | nil=>intro a b a' b' h h1 h2;have:a≤b:=h;show a'≤b';omega
 | use i f t m _=>intro a b a' b' h h1 h2;obtain⟨g1,g2,g3,g4⟩:=h;exact⟨by omega,g2,by omega,g4⟩
 | pair m1 m2 i1 i2=>intro a b a' b' h h1 h2;obtain⟨c,g1,g2⟩:=h;exact⟨c,i1 g1 h1 (Nat.le_refl _),i2 g2 (Nat.le_refl _) h2⟩
theorem zmH {a b c:Nat} {m n:Nt} (h:wn a c m) (k:wn c b n):wn a b (jn m n):=by
 cases m with
 | nil=>
  have h':a≤c:=h
  cases n<;>exact zmz k h' (Nat.le_refl _)
 | use i f t m=>
  cases n with
  | nil=>exact zmz h (Nat.le_refl _) k
  | use _ _ _ _=>exact⟨c,h,k⟩
  | pair _ _=>exact⟨c,h,k⟩
 | pair m1 m2=>
  cases n with
  | nil=>exact zmz h (Nat.le_refl _) k
  | use _ _ _ _=>exact⟨c,h,k⟩
  | pair _ _=>exact⟨c,h,k⟩
def accN (k0 k:Nat):Ex→Prop
 | .S _ acc=>wn k0 k acc
 | _=>k0=k
theorem Ev.wn {g:List ze} {inp:z7} {x:Ex} {k:Nat} {r:Out} (h:Ev g inp x k r):k≤inp.length→∀ k0,accN k0 k x→∀ e m,r=some (e,m)→Go.Proofs.YtiganlkabilblaaGreatDoor.wn k0 e m:=by
 induction h with
 | cnil=>intro _ k0 _ e m h;cases h
 | chit _ ih=>intro hk k0 ha e m h;exact ih hk k0 (Nat.le_of_eq ha) e m h
 | cmiss _ _ _ ih=>intro hk k0 ha e m h;exact ih hk k0 ha e m h
 | snil=>intro _ k0 ha e m h;cases h;exact ha
 | sfail=>intro _ k0 _ e m h;cases h
 | sstep h1 _ i1 i2=>
  intro hk k0 ha e m h
  have hle:=h1.le hk _ _ rfl
  exact i2 hle.2 k0 (zmH ha (i1 hk _ rfl _ _ rfl)) e m h
 | tplain _ ih=>intro hk k0 ha e m h;exact ih hk k0 ha e m h
 | tand _ _=>
  intro _ k0 ha e m h
  cases ha
  unfold Ja at h
  split at h
  ·cases h;exact Nat.le_refl _
  ·cases h
 | tnot _ _=>
  intro _ k0 ha e m h
  cases ha
  unfold Ja at h
  split at h
  ·cases h;exact Nat.le_refl _
  ·cases h
 | iplain _ ih=>intro hk k0 ha e m h;exact ih hk k0 ha e m h
 | imaybe _ ih=>
  intro hk k0 ha e m h
  rename_i r _
  cases r with
  | none=>cases ha;cases h;exact Nat.le_refl _
  | some x=>exact ih hk k0 ha e m h
 | istar _ ih=>
  intro hk k0 ha e m h
  rename_i r _
  cases r with
  | none=>cases ha;cases h;exact Nat.le_refl _
  | some x=>exact ih hk k0 ha e m h
 | iplus _ ih=>intro hk k0 ha e m h;exact ih hk k0 ha e m h
 | qno=>intro _ k0 _ e m h;cases h
 | qlast _ _ ih _=>intro hk k0 ha e m h;cases h;exact ih hk k0 ha _ _ rfl
 | qmore h1 _ i1 i2=>
  intro hk k0 ha e m h
  have hle:=h1.le hk _ _ rfl
  cases h
  exact zmH (i1 hk k0 ha _ _ rfl) (i2 hle.2 _ rfl _ _ rfl)
 | pname hi hc h1 ih=>
  intro hk k0 ha e m h
  cases ha
  rename_i b k r
  cases r with
  | none=>cases h
  | some x=>
   obtain⟨e',m'⟩:=x
   have hle:=h1.le hk _ _ rfl
   simp only[QZ] at h
   split at h
   ·rename_i hlt
    cases h
    exact⟨Nat.le_refl _,hlt,Nat.le_refl _,ih hk _ rfl _ _ rfl⟩
   ·cases h
    exact hle.1
 | plit hb=>
  intro hk k0 ha e m h
  cases ha
  have:=zbL hk h
  unfold Ya at h
  split at h
  ·cases h;exact Nat.le_add_right _ _
  ·cases h
 | pcls hb=>
  intro _ k0 ha e m h
  cases ha
  have:=Ul h
  unfold Qj at h
  split at h
  ·cases h
  ·split at h
   ·cases h;exact Nat.le_succ _
   ·cases h
 | pany=>
  intro _ k0 ha e m h
  cases ha
  unfold Qj at h
  split at h
  ·cases h
  ·split at h
   ·cases h;exact Nat.le_succ _
   ·cases h
 | pgroup _ ih=>intro hk k0 ha e m h;exact ih hk k0 ha e m h
def okU (c:Z5) (inp:z7):Nt→Prop
 | .nil=>True
 | .use i f t m=>(i=1∨i=2)∧f≤inp.length∧t≤inp.length∧Ev (gs c) inp (.C ((gs c)[i]?.getD ⟨[],[]⟩).choice) f (some (t,m))∧okU c inp m
 | .pair m1 m2=>okU c inp m1∧okU c inp m2
theorem zmF {c:Z5} {inp:z7} {m n:Nt} (h:okU c inp m) (k:okU c inp n):okU c inp (jn m n):=by
 cases m<;>cases n<;>first | exact h | exact k | exact⟨h,k⟩
def accU (c:Z5) (inp:z7):Ex→Prop
 | .S _ acc=>okU c inp acc
 | _=>True
theorem Ev.okU {c:Z5} {inp:z7} {x:Ex} {k:Nat} {r:Out} (h:Ev (gs c) inp x k r):k≤inp.length→inX zkf x→accU c inp x→∀ e m,r=some (e,m)→Go.Proofs.YtiganlkabilblaaGreatDoor.okU c inp m:=by
 induction h with
 | cnil=>intro _ _ _ e m h;cases h
 | chit _ ih=>intro hk hi _ e m h;exact ih hk hi.1 trivial e m h
 | cmiss _ _ _ ih=>intro hk hi _ e m h;exact ih hk hi.2 trivial e m h
 | snil=>intro _ _ ha e m h;cases h;exact ha
 | sfail=>intro _ _ _ e m h;cases h
 | sstep h1 _ i1 i2=>
  intro hk hi ha e m h
  have hle:=h1.le hk _ _ rfl
  exact i2 hle.2 hi.2 (zmF ha (i1 hk hi.1 trivial _ _ rfl)) e m h
 | tplain _ ih=>intro hk hi _ e m h;exact ih hk hi trivial e m h
 | tand _ _=>
  intro _ _ _ e m h
  unfold Ja at h
  split at h<;>cases h
  trivial
 | tnot _ _=>
  intro _ _ _ e m h
  unfold Ja at h
  split at h<;>cases h
  trivial
 | iplain _ ih=>intro hk hi _ e m h;exact ih hk hi trivial e m h
 | imaybe _ ih=>
  intro hk hi ha e m h
  rename_i r _
  cases r with
  | none=>cases h;trivial
  | some x=>exact ih hk hi trivial e m h
 | istar _ ih=>
  intro hk hi ha e m h
  rename_i r _
  cases r with
  | none=>cases h;trivial
  | some x=>exact ih hk hi trivial e m h
 | iplus _ ih=>intro hk hi _ e m h;exact ih hk hi trivial e m h
 | qno=>intro _ _ _ e m h;cases h
 | qlast _ _ ih _=>intro hk hi _ e m h;cases h;exact ih hk hi trivial _ _ rfl
 | qmore h1 _ i1 i2=>
  intro hk hi _ e m h
  have hle:=h1.le hk _ _ rfl
  cases h
  exact zmF (i1 hk hi trivial _ _ rfl) (i2 hle.2 hi trivial _ _ rfl)
 | pname hi hc h1 ih=>
  intro hk hx ha e m h
  rename_i b k r
  have hb:b=zbT∨b=zbU:=by
   simp only[inX,inP,List.mem_cons,List.not_mem_nil,or_false] at hx
   exact hx
  cases r with
  | none=>cases h
  | some x=>
   obtain⟨e',m'⟩:=x
   have hle:=h1.le hk _ _ rfl
   simp only[QZ] at h
   split at h
   ·cases h
    rcases hb with rfl | rfl
    ·exact⟨.inl rfl,hk,hle.2,h1,ih hk zma trivial _ _ rfl⟩
    ·exact⟨.inr rfl,hk,hle.2,h1,ih hk zmd trivial _ _ rfl⟩
   ·cases h;trivial
 | plit hb=>
  intro _ _ _ e m h
  unfold Ya at h
  split at h<;>cases h
  trivial
 | pcls hb=>
  intro _ _ _ e m h
  unfold Qj at h
  split at h
  ·cases h
  ·split at h<;>cases h
   trivial
 | pany=>
  intro _ _ _ e m h
  unfold Qj at h
  split at h
  ·cases h
  ·split at h<;>cases h
   trivial
 | pgroup _ ih=>intro hk hi _ e m h;exact ih hk hi trivial e m h
def Rn (p x:Nod):Prop:=1≤x.2.2.2∧x.2.2.2≤p.2.2.2+1∧(x.2.2.2≤p.2.2.2→p.2.2.1≤x.2.1)∧(x.2.2.2=p.2.2.2+1→p.2.1≤x.2.1∧x.2.2.1≤p.2.2.1)
def ChR:Nod→List Nod→Prop
 | _,[]=>True
 | p,x::l=>Rn p x∧ChR x l
def zms:Nod→List Nod→Nod
 | p,[]=>p
 | _,x::l=>zms x l
theorem zmJ {p:Nod} {l l':List Nod} (h:ChR p l) (k:ChR (zms p l) l'):ChR p (l++l'):=by
 induction l generalizing p with
 | nil=>exact k
 | cons x l ih=>exact⟨h.1,ih h.2 k⟩
theorem zmU {p:Nod} {l l':List Nod}:zms p (l++l')=zms (zms p l) l':=by
 induction l generalizing p with
 | nil=>rfl
 | cons x l ih=>exact ih
theorem zmO (m:Nt):∀ (a b d:Nat) (p:Nod),wn a b m→1≤d→((p.2.2.2+1=d∧p.2.1≤a∧b≤p.2.2.1)∨(d≤p.2.2.2∧p.2.2.1≤a))→ChR p (zY d m)∧(zms p (zY d m)=p∨(d≤(zms p (zY d m)).2.2.2∧(zms p (zY d m)).2.2.1≤b)):=by
 induction m with
 | nil=>intro a b d p _ _ _;exact⟨trivial,.inl rfl⟩
 | use i f t m ih=>
  intro a b d p h hd hp
  obtain⟨h1,h2,h3,h4⟩:=h
  obtain⟨k1,k2⟩:=ih f t (d+1) (i,f,t,d) h4 (by omega) (.inl ⟨rfl,Nat.le_refl _,Nat.le_refl _⟩)
  refine⟨⟨?_,k1⟩,.inr ?_⟩
  ·refine⟨hd,?_,?_,?_⟩
   ·show d≤_
    omega
   ·show d≤_→_≤f
    intro _
    omega
   ·show d=_→_≤f∧t≤_
    intro _
    omega
  ·show d≤(zms (i,f,t,d) (zY (d+1) m)).2.2.2∧(zms (i,f,t,d) (zY (d+1) m)).2.2.1≤b
   rcases k2 with k2 | ⟨k2,k3⟩
   ·rw[k2];exact⟨Nat.le_refl _,h3⟩
   ·exact⟨by omega,by omega⟩
 | pair m1 m2 i1 i2=>
  intro a b d p h hd hp
  obtain⟨c,h1,h2⟩:=h
  have l1:=zmI h1
  have l2:=zmI h2
  obtain⟨k1,k2⟩:=i1 a c d p h1 hd (by
   rcases hp with ⟨e1,e2,e3⟩ | e
   ·exact .inl ⟨e1,e2,by omega⟩
   ·exact .inr e)
  have hq:(((zms p (zY d m1)).2.2.2+1=d∧(zms p (zY d m1)).2.1≤c∧b≤(zms p (zY d m1)).2.2.1)∨(d≤(zms p (zY d m1)).2.2.2∧(zms p (zY d m1)).2.2.1≤c)):=by
   rcases k2 with k2 | k2
   ·rw[k2]
    rcases hp with ⟨e1,e2,e3⟩ | ⟨e1,e2⟩
    ·exact .inl ⟨e1,by omega,e3⟩
    ·exact .inr ⟨e1,by omega⟩
   ·exact .inr k2
  obtain⟨k3,k4⟩:=i2 c b d _ h2 hd hq
  have hf:zY d (.pair m1 m2)=zY d m1++zY d m2:=rfl
  rw[hf]
  refine⟨zmJ k1 k3,?_⟩
  rw[zmU]
  rcases k4 with k4 | k4
  ·rw[k4]
   rcases k2 with k2 | ⟨k2,k5⟩
   ·exact .inl k2
   ·exact .inr ⟨k2,by omega⟩
  ·exact .inr k4
theorem zmP {c:Z5} {inp:z7} (m:Nt):∀ (a b d:Nat),okU c inp m→wn a b m→∀ x ∈ zY d m,(x.1=1∨x.1=2)∧x.2.1<x.2.2.1∧x.2.2.1≤inp.length∧∃ m',Ev (gs c) inp (.C ((gs c)[x.1]?.getD ⟨[],[]⟩).choice) x.2.1 (some (x.2.2.1,m')):=by
 induction m with
 | nil=>intro a b d _ _ x hx;simp[zY] at hx
 | use i f t m ih=>
  intro a b d h hw x hx
  obtain⟨h1,h2,h3,h4,h5⟩:=h
  obtain⟨w1,w2,w3,w4⟩:=hw
  simp only[zY,List.mem_cons] at hx
  rcases hx with rfl | hx
  ·exact⟨h1,w2,h3,m,h4⟩
  ·exact ih _ _ _ h5 w4 x hx
 | pair m1 m2 i1 i2=>
  intro a b d h hw x hx
  obtain⟨cc,w1,w2⟩:=hw
  simp only[zY,List.mem_append] at hx
  rcases hx with hx | hx
  ·exact i1 _ _ _ h.1 w1 x hx
  ·exact i2 _ _ _ h.2 w2 x hx
end Go.Proofs.YtiganlkabilblaaGreatDoor
