import Derived.Test.YtiganlkabilblaaGreatDoorVL23
import Derived.Test.YtiganlkabilblaaGreatDoorVL00
import Derived.Test.YtiganlkabilblaaGreatDoorVL24
import Derived.Test.YtiganlkabilblaaGreatDoorVL14
set_option linter.all false
set_option maxHeartbeats 64000000
set_option maxRecDepth 100000
namespace Go.Proofs.YtiganlkabilblaaGreatDoor
open Go.RowKit
abbrev gs (c:Thk.Z5):List Thk.ze:=[⟨nmS,c⟩,zk6,zjz]
theorem zkr {x:List UInt8} {dep:Nat} {c:Thk.Z5} (hx:Px x dep c) (hd:dep≤6):Thk.ZU 0 (Thk.Qn (hdB++(x++zjP))) (.ok (gs c)):=by
 rw[YZ,zkQ]
 have h1:=hx 0 5 zjP (by omega) (zlv _)
 rw[zkm] at h1
 exact .more (.ok rfl rfl (by decide) h1) (by simp[zk0,Thk.hd]) (zlr _)
theorem zla {c:Thk.Z5} {e:Bool} (hu:Thk.zx (zv K2) c=false)
  (h3:∀ E:List UInt8→Bool,E zbT=false→E zbU=false→Thk.Zl E c=e∧Thk.zx (zJ E) c=false∧∀ b ∈ Thk.ZC E c,b=zbT∨b=zbU) (x:Nat × Nat):¬ Qh (gs c) (.error x):=by
 have hn:zg (gs c)=K2:=rfl
 have hE0:∀ E,QQ K2 (gs c) E→Eb K2 E zbT=false∧Eb K2 E zbU=false:=by
  intro E hE
  have hc:QP K2 (gs c) [e,false,false]:=by
   intro i hi
   rcases lt3 hi with rfl | rfl | rfl
   ·intro h
    have:=(h3 (Eb K2 [e,false,false]) rfl rfl).1
    simp only[List.getElem_cons_zero] at h
    rw[this] at h
    simp[h]
   ·intro h;simp[Thk.Zl,Thk.ZH,Thk.Zu,Thk.Ze] at h
   ·intro h;simp[Thk.Zl,Thk.ZH,Thk.Zu,Thk.Ze] at h
  constructor
  ·have:=hE _ hc 1
   show E.getD 1 false=false
   cases h:E.getD 1 false with
   | false=>rfl
   | true=>exact absurd (this h) (by simp)
  ·have:=hE _ hc 2
   show E.getD 2 false=false
   cases h:E.getD 2 false with
   | false=>rfl
   | true=>exact absurd (this h) (by simp)
 intro h
 cases h with
 | twice h=>
  obtain⟨h1,h2,_⟩:=h
  rcases lt3 h1 with rfl | rfl | rfl<;>exact absurd h2 (by rw[hn];decide)
 | unknown _ h=>
  obtain⟨h1,h2,_⟩:=h
  rw[hn] at h2
  rcases lt3 h1 with rfl | rfl | rfl
  ·simp only[List.getElem_cons_zero] at h2
   rw[hu] at h2;cases h2
  ·simp[Thk.zx,Thk.Zc,Thk.ZG,Thk.Zi,zv,Thk.Term.piece] at h2
  ·simp[Thk.zx,Thk.Zc,Thk.ZG,Thk.Zi,zv,Thk.Term.piece] at h2
 | loop _ _ _ _ hl h=>
  rw[hn] at hl h
  obtain⟨h1,h2,_⟩:=h
  obtain⟨q1,q2⟩:=hE0 _ hl
  obtain⟨_,q3,_⟩:=h3 _ q1 q2
  rcases lt3 h1 with rfl | rfl | rfl
  ·simp only[List.getElem_cons_zero] at h2
   rw[q3] at h2;cases h2
  ·simp[Thk.zx,Thk.Zc,Thk.ZG,Thk.Zi,zJ,Thk.Term.piece,Thk.Term.behind] at h2
  ·simp[Thk.zx,Thk.Zc,Thk.ZG,Thk.Zi,zJ,Thk.Term.piece,Thk.Term.behind] at h2
 | left a1 a2 a3 a4 hl a6 h=>
  rename_i E i
  rw[hn] at hl h
  obtain⟨h1,h2,_⟩:=h
  obtain⟨q1,q2⟩:=hE0 _ hl
  obtain⟨_,_,q3⟩:=h3 _ q1 q2
  have r1:∀ j,Za K2 E (gs c) 1 j=false:=by
   intro j
   show (ZJ K2 _ (Thk.ZC (Eb K2 E) zk6.choice)).getD j false=false
   rw[zkd _ _ _ _ (by simp[Thk.ZC,Thk.Q2,Thk.JR,Thk.Zy,Thk.Zu,Thk.Ze])]
   exact zkx j
  have r2:∀ j,Za K2 E (gs c) 2 j=false:=by
   intro j
   show (ZJ K2 _ (Thk.ZC (Eb K2 E) zjz.choice)).getD j false=false
   rw[zkd _ _ _ _ (by simp[Thk.ZC,Thk.Q2,Thk.JR,Thk.Zy,Thk.Zu,Thk.Ze])]
   exact zkx j
  have r0:∀ i,Za K2 E (gs c) i 0=false:=by
   intro i
   match i with
   | 1=>exact r1 0
   | 2=>exact r2 0
   | 0=>
    show (ZJ K2 _ (Thk.ZC (Eb K2 E) c)).getD 0 false=false
    rw[zkd]
    ·rfl
    ·intro b hb
     rcases q3 b hb with rfl | rfl<;>decide
   | n+3=>rfl
  have:=Wm3 _ r1 r2 r0 i h1
  rw[show (gs c).length=3 from rfl] at h2
  rw[this] at h2;cases h2
theorem Zo.gram {l:List UInt8} {g g':List Thk.ze} {E:List Bool} (h:Zo l (.ok (g',E))) (hg:Thk.ZU 0 (Thk.Qn l) (.ok g)):g'=g:=by
 cases h with
 | ok h _=>
  cases h with
  | read _ h=>have:=h.det hg;cases this;rfl
end Go.Proofs.YtiganlkabilblaaGreatDoor
namespace Go.Proofs.YtiganlkabilblaaGreatDoor
open Thk
mutual
def inP (l:List z7):zC→Prop
 | .name b=>b ∈ l
 | .group c=>inC l c
 | .lit _=>True
 | .cls _=>True
 | .any=>True
def inT (l:List z7):Term→Prop
 | .mk _ p _=>inP l p
def inS (l:List z7):List Term→Prop
 | []=>True
 | t::s=>inT l t∧inS l s
def inC (l:List z7):List (List Term)→Prop
 | []=>True
 | s::c=>inS l s∧inC l c
end
def inX (l:List z7):Ex→Prop
 | .P p=>inP l p
 | .Q p=>inP l p
 | .I p _=>inP l p
 | .T t=>inT l t
 | .S s _=>inS l s
 | .C c=>inC l c
mutual
theorem zmb {l:List z7}:∀ p:zC,Zi (zv l) p=false→(∀ b,p = .name b→b ∈ l)→inP l p
 | .name b,_,h=>h b rfl
 | .group c,e,_=>by simp only[Zi] at e;exact zlF c e
 | .lit _,_,_=>trivial
 | .cls _,_,_=>trivial
 | .any,_,_=>trivial
theorem zmc {l:List z7}:∀ t:Term,ZG (zv l) t=false→inT l t
 | .mk a p b,e=>by
  simp only[ZG,Bool.or_eq_false_iff] at e
  refine zmb p e.2 (fun b hb=>?_)
  subst hb
  have:=e.1
  simpa [zv,Term.piece] using this
theorem zlO {l:List z7}:∀ s:List Term,Zc (zv l) s=false→inS l s
 | [],_=>trivial
 | t::s,e=>by
  simp only[Zc,Bool.or_eq_false_iff] at e
  exact⟨zmc t e.1,zlO s e.2⟩
theorem zlF {l:List z7}:∀ c:List (List Term),zx (zv l) c=false→inC l c
 | [],_=>trivial
 | s::c,e=>by
  simp only[zx,Bool.or_eq_false_iff] at e
  exact⟨zlO s e.1,zlF c e.2⟩
end
theorem zma:inC zkf zk6.choice:=by simp[inC,inS,inT,inP]
theorem zmd:inC zkf zjz.choice:=by simp[inC,inS,inT,inP]
theorem Ev.swap {c c':Z5} {inp:z7} {x:Ex} {k:Nat} {r:Out} (h:Ev (gs c) inp x k r):inX zkf x→Ev (gs c') inp x k r:=by
 induction h with
 | cnil=>intro _;exact .cnil
 | chit _ ih=>intro hi;exact .chit (ih hi.1)
 | cmiss _ _ i1 i2=>intro hi;exact .cmiss (i1 hi.1) (i2 hi.2)
 | snil=>intro _;exact .snil
 | sfail _ ih=>intro hi;exact .sfail (ih hi.1)
 | sstep _ _ i1 i2=>intro hi;exact .sstep (i1 hi.1) (i2 hi.2)
 | tplain _ ih=>intro hi;exact .tplain (ih hi)
 | tand _ ih=>intro hi;exact .tand (ih hi)
 | tnot _ ih=>intro hi;exact .tnot (ih hi)
 | iplain _ ih=>intro hi;exact .iplain (ih hi)
 | imaybe _ ih=>intro hi;exact .imaybe (ih hi)
 | istar _ ih=>intro hi;exact .istar (ih hi)
 | iplus _ ih=>intro hi;exact .iplus (ih hi)
 | qno _ ih=>intro hi;exact .qno (ih hi)
 | qlast _ _ i1 i2=>intro hi;exact .qlast (i1 hi) (i2 hi)
 | qmore _ _ i1 i2=>intro hi;exact .qmore (i1 hi) (i2 hi)
 | pname h hc _ ih=>
  intro hi
  rename_i b k r _
  have hb:b=zbT∨b=zbU:=by
   simp only[inX,inP,List.mem_cons,List.not_mem_nil,or_false] at hi
   exact hi
  rcases hb with rfl | rfl
  ·exact Ev.pname (g:=gs c') (b:=zbT) (by show idx0 K2 zbT<3;decide) (by rfl) (ih zma)
  ·exact Ev.pname (g:=gs c') (b:=zbU) (by show idx0 K2 zbU<3;decide) (by rfl) (ih zmd)
 | plit h=>intro _;exact .plit h
 | pcls h=>intro _;exact .pcls h
 | pany=>intro _;exact .pany
 | pgroup _ ih=>intro hi;exact .pgroup (ih hi)
def shN (n:Nat):Nt→Nt
 | .nil=>.nil
 | .use i a b m=>.use i (a - n) (b - n) (shN n m)
 | .pair a b=>.pair (shN n a) (shN n b)
theorem zlR (n:Nat) (a b:Nt):shN n (jn a b)=jn (shN n a) (shN n b):=by
 cases a<;>cases b<;>rfl
def shO (n:Nat):Out→Out
 | none=>none
 | some (e,m)=>some (e - n,shN n m)
def shX (n:Nat):Ex→Ex
 | .S s acc=>.S s (shN n acc)
 | x=>x
theorem zlT (n k:Nat) (b:Bool) (r:Out):shO n (Ja k b r)=Ja (k - n) b (shO n r):=by
 have:(shO n r).isSome=r.isSome:=by cases r<;>rfl
 unfold Ja
 rw[this]
 split<;>rfl
theorem zlU (n k:Nat) (r:Out):shO n (Kg k r)=Kg (k - n) (shO n r):=by
 cases r<;>rfl
theorem zlS (pre rest:z7) (k:Nat) (f:UInt8→Bool):shO pre.length (Qj (pre++rest) (pre.length+k) f)=Qj rest k f:=by
 unfold Qj
 rw[List.getElem?_append_right (by omega),Nat.add_sub_cancel_left]
 cases rest[k]? with
 | none=>rfl
 | some c=>
  simp only[]
  split
  ·simp only[shO,shN,Option.some.injEq,Prod.mk.injEq,and_true];omega
  ·rfl
theorem zmh (pre rest:z7) (k:Nat) (b:z7):shO pre.length (Ya (pre++rest) (pre.length+k) b)=Ya rest k b:=by
 unfold Ya
 rw[List.drop_append,List.drop_eq_nil_of_le (by omega),List.nil_append,Nat.add_sub_cancel_left]
 split
 ·simp only[shO,shN,Option.some.injEq,Prod.mk.injEq,and_true];omega
 ·rfl
theorem Ev.shift {g:List ze} {pre rest:z7} {x:Ex} {k0:Nat} {r:Out} (h:Ev g (pre++rest) x k0 r):∀ k,k0=pre.length+k→k≤rest.length→Ev g rest (shX pre.length x) k (shO pre.length r):=by
 have hlen:(pre++rest).length=pre.length+rest.length:=List.length_append
 induction h with
 | cnil=>intro k _ _;exact .cnil
 | chit h ih=>
  intro k hk hl
  exact .chit (ih k hk hl)
 | cmiss _ _ i1 i2=>intro k hk hl;exact .cmiss (i1 k hk hl) (i2 k hk hl)
 | snil=>
  intro k hk hl
  subst hk
  have:pre.length+k - pre.length=k:=by omega
  simp only[shO,shX,this]
  exact .snil
 | sfail _ ih=>intro k hk hl;exact .sfail (ih k hk hl)
 | sstep h1 _ i1 i2=>
  intro k hk hl
  rename_i t s acc k0 e m r _
  have hle:=h1.le (by omega) e m rfl
  have h3:=i1 k hk hl
  have h4:=i2 (e - pre.length) (by omega) (by omega)
  simp only[shX,zlR] at h4
  exact .sstep h3 h4
 | tplain _ ih=>intro k hk hl;exact .tplain (ih k hk hl)
 | tand _ ih=>
  intro k hk hl
  rw[zlT,hk,Nat.add_sub_cancel_left]
  exact .tand (ih k hk hl)
 | tnot _ ih=>
  intro k hk hl
  rw[zlT,hk,Nat.add_sub_cancel_left]
  exact .tnot (ih k hk hl)
 | iplain _ ih=>intro k hk hl;exact .iplain (ih k hk hl)
 | imaybe _ ih=>
  intro k hk hl
  rw[zlU,hk,Nat.add_sub_cancel_left]
  exact .imaybe (ih k hk hl)
 | istar _ ih=>
  intro k hk hl
  rw[zlU,hk,Nat.add_sub_cancel_left]
  exact .istar (ih k hk hl)
 | iplus _ ih=>intro k hk hl;exact .iplus (ih k hk hl)
 | qno _ ih=>intro k hk hl;exact .qno (ih k hk hl)
 | qlast h1 _ i1 i2=>
  intro k hk hl
  rename_i p k0 e m _
  have hle:=h1.le (by omega) e m rfl
  exact .qlast (i1 k hk hl) (i2 (e - pre.length) (by omega) (by omega))
 | qmore h1 _ i1 i2=>
  intro k hk hl
  rename_i p k0 e m e2 m2 _
  have hle:=h1.le (by omega) e m rfl
  have:=Ev.qmore (i1 k hk hl) (i2 (e - pre.length) (by omega) (by omega))
  simp only[shO,zlR]
  exact this
 | pname h hc h1 ih=>
  intro k hk hl
  rename_i b k0 r
  have h2:=Ev.pname h hc (ih k hk hl)
  have:shO pre.length (QZ (idx0 (zg g) b) k0 r)=QZ (idx0 (zg g) b) k (shO pre.length r):=by
   cases r with
   | none=>rfl
   | some x=>
    obtain⟨e,m⟩:=x
    have hle:=h1.le (by omega) e m rfl
    simp only[QZ,shO]
    by_cases hke:k0<e
    ·rw[if_pos hke,if_pos (by omega)]
     simp only[shO,shN]
     rw[show k0 - pre.length=k from by omega]
    ·rw[if_neg hke,if_neg (by omega)]
     rfl
  rw[this]
  exact h2
 | plit h=>intro k hk hl;subst hk;rw[zmh];exact .plit h
 | pcls h=>intro k hk hl;subst hk;rw[zlS];exact .pcls h
 | pany=>intro k hk hl;subst hk;rw[zlS];exact .pany
 | pgroup _ ih=>intro k hk hl;exact .pgroup (ih k hk hl)
def Gt (c:Z5) (e:Bool):Prop:=zx (zv zkf) c=false ∧
  ∀ E:List UInt8→Bool,E zbT=false→E zbU=false→Zl E c=e∧zx (zJ E) c=false∧∀ b ∈ ZC E c,b=zbT∨b=zbU
theorem Gt.names {c:Z5} {e:Bool} (h:Gt c e):inC zkf c:=zlF c h.1
theorem zm0 {c c':Z5} {e e':Bool} (hx:Gt c e) (hy:Gt c' e'):Gt [[.mk 0 (.group c) 0],[.mk 0 (.group c') 0]] (e || e'):=by
 obtain⟨h2,h3⟩:=hx
 obtain⟨h2',h3'⟩:=hy
 refine⟨?_,?_⟩
 ·simp[zx,Zc,ZG,Zi,zv,Term.piece] at h2 h2' ⊢
  exact⟨h2,h2'⟩
 ·intro E hE hF
  obtain⟨q1,q2,q3⟩:=h3 E hE hF
  obtain⟨r1,r2,r3⟩:=h3' E hE hF
  refine⟨?_,?_,?_⟩
  ·simp[Zl,ZH,Zu,Ze,q1,r1]
  ·simp[zx,Zc,ZG,Zi,zJ,Term.piece,Term.behind] at q2 r2 ⊢
   exact⟨q2,r2⟩
  ·intro b hb
   simp[ZC,Q2,JR,Zy] at hb
   rcases hb with hb | hb
   ·exact q3 b hb
   ·exact r3 b hb
theorem zlZ {c c':Z5} {e e':Bool} (hx:Gt c e) (hy:Gt c' e'):Gt [[.mk 0 (.group c) 0,.mk 0 (.group c') 0]] (e && e'):=by
 obtain⟨h2,h3⟩:=hx
 obtain⟨h2',h3'⟩:=hy
 refine⟨?_,?_⟩
 ·simp[zx,Zc,ZG,Zi,zv,Term.piece] at h2 h2' ⊢
  exact⟨h2,h2'⟩
 ·intro E hE hF
  obtain⟨q1,q2,q3⟩:=h3 E hE hF
  obtain⟨r1,r2,r3⟩:=h3' E hE hF
  refine⟨?_,?_,?_⟩
  ·simp[Zl,ZH,Zu,Ze,q1,r1]
  ·simp[zx,Zc,ZG,Zi,zJ,Term.piece,Term.behind] at q2 r2 ⊢
   exact⟨q2,r2⟩
  ·intro b hb
   simp[ZC,Q2,JR,Zy] at hb
   rcases hb with hb | ⟨_,hb⟩
   ·exact q3 b hb
   ·exact r3 b hb
theorem zb {e:Bool} (a k:UInt8) {c:Z5} (h:Gt c e) (hl:e=true→k≠42∧k≠43):Gt [[.mk a (.group c) k]] ((a != 0 || k == 63 || k == 42) || e):=by
 obtain⟨h2,h3⟩:=h
 refine⟨?_,?_⟩
 ·simp[zx,Zc,ZG,Zi,zv,Term.piece] at h2 ⊢
  exact h2
 ·intro E hE hF
  obtain⟨q1,q2,q3⟩:=h3 E hE hF
  refine⟨?_,?_,?_⟩
  ·simp[Zl,ZH,Zu,Ze,q1]
  ·simp only[zx,Zc,ZG,Zi,Bool.or_false,q2]
   simp only[zJ,Term.piece,Term.behind,Ze,q1]
   cases e with
   | false=>simp
   | true=>obtain⟨g1,g2⟩:=hl rfl;simp[g1,g2]
  ·intro b hb
   simp[ZC,Q2,JR,Zy] at hb
   exact q3 b hb
theorem Zo.least {l:List UInt8} {g:List ze} {E:List Bool} (h:Zo l (.ok (g,E))):QQ (zg g) g E:=by
 cases h with
 | ok _ h=>cases h;assumption
theorem zm8 {l:List UInt8} {c:Z5} {e:Bool} (hG:ZU 0 (Qn l) (.ok (gs c))) (ht:Gt c e) (hl:l.length≤2000) {res:Except (Nat × Nat) (List ze × List Bool)} (h:Zo l res):∃ E,res = .ok (gs c,E):=by
 obtain⟨⟨g,E⟩,rfl⟩:=h.fine hl hG (zla (zlz ht.1) ht.2)
 exact⟨E,by rw[h.gram hG]⟩
section
variable {g : List ze} {inp : z7}
theorem qg {t:Term} {k:Nat} {r:Out} (h:Ev g inp (.T t) k r):∃ a p b r',t = .mk a p b∧Ev g inp (.I p b) k r'∧((a=0∧r=r')∨(a=38∧r=Ja k true r')∨(a=33∧r=Ja k false r')):=by
 cases h with
 | tplain h=>exact⟨_,_,_,_,rfl,h,.inl ⟨rfl,rfl⟩⟩
 | tand h=>exact⟨_,_,_,_,rfl,h,.inr (.inl ⟨rfl,rfl⟩)⟩
 | tnot h=>exact⟨_,_,_,_,rfl,h,.inr (.inr ⟨rfl,rfl⟩)⟩
theorem q7 {p:zC} {b:UInt8} {k:Nat} {r:Out} (h:Ev g inp (.I p b) k r):(b=0∧Ev g inp (.P p) k r)∨(b=63∧∃ r',Ev g inp (.P p) k r'∧r=Kg k r')∨(b=42∧∃ r',Ev g inp (.Q p) k r'∧r=Kg k r')∨(b=43∧Ev g inp (.Q p) k r):=by
 cases h with
 | iplain h=>exact .inl ⟨rfl,h⟩
 | imaybe h=>exact .inr (.inl ⟨rfl,_,h,rfl⟩)
 | istar h=>exact .inr (.inr (.inl ⟨rfl,_,h,rfl⟩))
 | iplus h=>exact .inr (.inr (.inr ⟨rfl,h⟩))
theorem zlD {c:Z5} {k:Nat} {r:Out} (h:Ev g inp (.P (.group c)) k r):Ev g inp (.C c) k r:=by
 cases h with
 | pgroup h=>exact h
theorem zlA {c:Z5} {k:Nat} {r:Out} (h:Ev g inp (.T (.mk 0 (.group c) 0)) k r):Ev g inp (.C c) k r:=by
 obtain⟨a,p,b,r',he,hI,hc⟩:=qg h
 cases he
 rcases hc with ⟨_,rfl⟩ | ⟨h0,_⟩ | ⟨h0,_⟩
 ·rcases q7 hI with ⟨_,h⟩ | ⟨h0,_⟩ | ⟨h0,_⟩ | ⟨h0,_⟩
  ·exact zlD h
  ·exact absurd h0 (by decide)
  ·exact absurd h0 (by decide)
  ·exact absurd h0 (by decide)
 ·exact absurd h0 (by decide)
 ·exact absurd h0 (by decide)
theorem zlE {t:Term} {acc:Nt} {k:Nat} {r:Out} (h:Ev g inp (.S [t] acc) k r):∃ r',Ev g inp (.T t) k r'∧fin r=fin r':=by
 cases h with
 | sfail h=>exact⟨_,h,rfl⟩
 | sstep h h2=>
  cases h2 with
  | snil=>exact⟨_,h,rfl⟩
theorem zlN {s:List Term} {k:Nat} {r:Out} (h:Ev g inp (.C [s]) k r):Ev g inp (.S s .nil) k r:=by
 cases h with
 | chit h=>exact h
 | cmiss h h2=>
  cases h2 with
  | cnil=>exact h
theorem zlB {t:Term} {k:Nat} {r:Out} (h:Ev g inp (.C [[t]]) k r):∃ r',Ev g inp (.T t) k r'∧fin r=fin r':=zlE (zlN h)
end
def Tk (c:Z5) (inp:z7) (n:Option Nat):Prop:=∃ o,Ev (gs c) inp (.C c) 0 o∧fin o=n
theorem Tk.of {c c0:Z5} {inp:z7} {n:Option Nat} {o:Out} (h:Tk c inp n) (hi:inC zkf c) (k:Ev (gs c0) inp (.C c) 0 o):fin o=n:=by
 obtain⟨o',h1,rfl⟩:=h
 rw[(h1.swap (c':=c0) hi).det _ k]
theorem Tk.behind {c c0:Z5} {inp:z7} {n:Option Nat} {o:Out} {k:Nat} (h:Tk c (inp.drop k) n) (hi:inC zkf c) (hk:k≤inp.length) (hE:Ev (gs c0) inp (.C c) k o):(fin o=none∧n=none)∨∃ d,n=some d∧fin o=some (k+d)∧k+d≤inp.length:=by
 have hle:=hE.le hk
 have hlen:(inp.take k).length=k:=by rw[List.length_take];omega
 have h1:Ev (gs c0) (inp.take k++inp.drop k) (.C c) k o:=by rw[List.take_append_drop];exact hE
 have h2:=h1.shift 0 (by omega) (Nat.zero_le _)
 have h3:=h.of hi h2
 rw[hlen] at h3
 cases o with
 | none=>exact .inl ⟨rfl,h3.symm⟩
 | some x=>
  obtain⟨e,m⟩:=x
  obtain⟨l1,l2⟩:=hle e m rfl
  refine .inr ⟨e - k,h3.symm,?_,by omega⟩
  show some e=some (k+(e - k))
  congr 1;omega
end Go.Proofs.YtiganlkabilblaaGreatDoor
namespace Thk
mutual
def nfP:zC→zC
 | .group [[]]=>.group [[]]
 | .group [[.mk a p b]]=>if a=0∧b=0 then nfP p else .group [[nfT (.mk a p b)]]
 | .group c=>.group (nfC c)
 | .name b=>.name b
 | .lit b=>.lit b
 | .cls l=>.cls l
 | .any=>.any
def nfU:zC→Term
 | .group [[]]=>.mk 0 (.group [[]]) 0
 | .group [[.mk a p b]]=>if a=0∧b=0 then nfU p else nfT (.mk a p b)
 | .group c=>.mk 0 (.group (nfC c)) 0
 | .name b=>.mk 0 (.name b) 0
 | .lit b=>.mk 0 (.lit b) 0
 | .cls l=>.mk 0 (.cls l) 0
 | .any=>.mk 0 .any 0
def nfT:Term→Term
 | .mk a p b=>if a=0∧b=0 then nfU p else .mk a (nfP p) b
def nfS:List Term→List Term
 | []=>[]
 | t::s=>nfT t::nfS s
def nfQ:List Term→List Term
 | []=>[.mk 0 (.group [[]]) 0]
 | t::s=>nfT t::nfS s
def nfC:List (List Term)→List (List Term)
 | []=>[]
 | s::c=>nfQ s::nfC c
end
theorem zpO (s:List Term):nfQ s≠[]:=by cases s<;>simp[nfQ]
def znK:List (List Term)→Bool
 | [[]]=>false
 | [[_]]=>false
 | _=>true
theorem zpg {c:List (List Term)} (h:znK c=true):znK (nfC c)=true:=by
 cases c with
 | nil=>rfl
 | cons s c=>
  cases c with
  | nil=>
   cases s with
   | nil=>cases h
   | cons t s=>
    cases s with
    | nil=>cases h
    | cons t2 s=>rfl
  | cons s2 c=>
   have:nfC (s::s2::c)=nfQ s::nfQ s2::nfC c:=rfl
   rw[this]
   cases h1:nfQ s with
   | nil=>exact absurd h1 (zpO s)
   | cons t s'=>cases s'<;>rfl
theorem zns {c:List (List Term)} (h:znK c=true) (sg:Bool):prP (.group c) sg=40::(prC c++[41]):=by
 cases c with
 | nil=>simp[prP]
 | cons s c=>
  cases c with
  | nil=>
   cases s with
   | nil=>cases h
   | cons t s=>
    cases s with
    | nil=>cases h
    | cons t2 s=>simp[prP]
  | cons s2 c=>cases s with
   | nil=>simp[prP]
   | cons t s=>simp[prP]
theorem znH {c:List (List Term)} (h:znK c=true):nfP (.group c) = .group (nfC c):=by
 cases c with
 | nil=>rfl
 | cons s c=>
  cases c with
  | nil=>
   cases s with
   | nil=>cases h
   | cons t s=>
    cases s with
    | nil=>cases h
    | cons t2 s=>simp[nfP]
  | cons s2 c=>cases s with
   | nil=>simp[nfP]
   | cons t s=>simp[nfP]
theorem znI {c:List (List Term)} (h:znK c=true):nfU (.group c) = .mk 0 (.group (nfC c)) 0:=by
 cases c with
 | nil=>rfl
 | cons s c=>
  cases c with
  | nil=>
   cases s with
   | nil=>cases h
   | cons t s=>
    cases s with
    | nil=>cases h
    | cons t2 s=>simp[nfU]
  | cons s2 c=>cases s with
   | nil=>simp[nfU]
   | cons t s=>simp[nfU]
theorem znq (c:List (List Term)):c=[[]]∨(∃ a p b,c=[[.mk a p b]])∨znK c=true:=by
 cases c with
 | nil=>exact .inr (.inr rfl)
 | cons s c=>
  cases c with
  | nil=>
   cases s with
   | nil=>exact .inl rfl
   | cons t s=>
    cases s with
    | nil=>cases t with
     | mk a p b=>exact .inr (.inl ⟨a,p,b,rfl⟩)
    | cons t2 s=>exact .inr (.inr rfl)
  | cons s2 c=>cases s with
   | nil=>exact .inr (.inr rfl)
   | cons t s=>cases s<;>exact .inr (.inr rfl)
theorem zny (a:UInt8) (p:zC) (b:UInt8):nfP (.group [[.mk a p b]])=if a=0∧b=0 then nfP p else .group [[nfT (.mk a p b)]]:=by simp[nfP]
theorem znA (a:UInt8) (p:zC) (b:UInt8):nfU (.group [[.mk a p b]])=if a=0∧b=0 then nfU p else nfT (.mk a p b):=by simp[nfU]
theorem zno (a:UInt8) (p:zC) (b:UInt8) (sg:Bool):prP (.group [[.mk a p b]]) sg=if a=0∧b=0 then prP p sg else if sg then 40::(prT (.mk a p b)++[41]) else prT (.mk a p b):=by simp[prP]
theorem znk (p:zC):prT (.mk 0 p 0)=prP p false:=by simp[prT,zne]
theorem znj {a:UInt8} {p:zC} {b:UInt8} (h:¬ (a=0∧b=0)):nfT (.mk a p b) = .mk a (nfP p) b:=by simp[nfT,h]
theorem znz (p:zC):nfT (.mk 0 p 0)=nfU p:=by simp[nfT]
theorem zo3 {a b:UInt8} (h:¬ (a=0∧b=0)):(a != 0 || b != 0)=true:=by
 by_cases ha:a=0
 ·have hb:b≠0:=fun e=>h ⟨ha,e⟩
  simp[hb]
 ·simp[ha]
mutual
theorem zp4:∀ p:zC,prP (nfP p) true=prP p true∧prT (nfU p)=prP p false
 | .name b=>⟨rfl,by simp[nfU,znk]⟩
 | .lit b=>⟨rfl,by simp[nfU,znk]⟩
 | .cls l=>⟨rfl,by simp[nfU,znk]⟩
 | .any=>⟨rfl,by simp[nfU,znk]⟩
 | .group c=>by
  have hC:=zoo c
  rcases znq c with rfl | ⟨a,p,b,rfl⟩ | hw
  ·exact⟨rfl,by simp[nfU,znk]⟩
  ·have hp:=zp4 p
   rw[zny,znA,zno,zno]
   by_cases h:a=0∧b=0
   ·simp only[h,and_self,if_true]
    exact hp
   ·simp only[h,if_false,if_true,Bool.false_eq_true]
    have ht:prT (nfT (.mk a p b))=prT (.mk a p b):=by
     rw[znj h]
     simp only[prT]
     rw[zo3 h,hp.1]
    refine⟨?_,ht⟩
    rw[znj h] at ht ⊢
    rw[zno]
    simp only[h,if_false,if_true]
    rw[ht]
  ·rw[znH hw,znI hw,zns hw,zns hw,znk,zns (zpg hw),zns (zpg hw),hC]
   exact⟨rfl,rfl⟩
theorem zp7:∀ t:Term,prT (nfT t)=prT t
 | .mk a p b=>by
  have hp:=zp4 p
  by_cases h:a=0∧b=0
  ·obtain⟨rfl,rfl⟩:=h
   rw[znz,znk]
   exact hp.2
  ·rw[znj h]
   simp only[prT]
   rw[zo3 h,hp.1]
theorem zp6:∀ s:List Term,prS (nfS s)=prS s
 | []=>rfl
 | [t]=>by
  simp only[nfS,prS]
  exact zp7 t
 | t::t2::s=>by
  have h1:=zp7 t
  have h2:=zp6 (t2::s)
  simp only[nfS,prS] at h2 ⊢
  rw[h1,h2]
theorem zp5:∀ s:List Term,znd (nfQ s)=znd s
 | []=>by simp[nfQ,znd,prS,znk,prP]
 | t::s=>by
  have h:=zp6 (t::s)
  simp only[nfS] at h
  simp only[nfQ,znd]
  exact h
theorem zoo:∀ c:List (List Term),prC (nfC c)=prC c
 | []=>rfl
 | [s]=>by
  simp only[nfC,prC]
  exact zp5 s
 | s::s2::c=>by
  have h1:=zp5 s
  have h2:=zoo (s2::c)
  simp only[nfC,prC] at h2 ⊢
  rw[h1,h2]
end
end Thk
namespace Go.Proofs.YtiganlkabilblaaGreatDoor
open Thk
theorem zpF {g:List ze} {inp:z7} {t:Term} {k:Nat} {r:Out} (h:Ev g inp (.S [t] .nil) k r):Ev g inp (.T t) k r:=by
 cases h with
 | sfail h=>exact h
 | sstep h h2=>
  cases h2 with
  | snil=>exact h
theorem zpG {g:List ze} {inp:z7} {t:Term} {k:Nat} {r:Out} (h:Ev g inp (.C [[t]]) k r):Ev g inp (.T t) k r:=zpF (zlN h)
def NfX (g:List ze) (inp:z7) (k:Nat) (r:Out):Ex→Prop
 | .P p=>Ev g inp (.P (nfP p)) k r∧Ev g inp (.T (nfU p)) k r
 | .Q p=>Ev g inp (.Q (nfP p)) k r
 | .I p b=>Ev g inp (.I (nfP p) b) k r∧(b=0→Ev g inp (.P (nfP p)) k r∧Ev g inp (.T (nfU p)) k r)
 | .T t=>Ev g inp (.T (nfT t)) k r∧∀ p,t = .mk 0 p 0→Ev g inp (.P (nfP p)) k r
 | .S s acc=>Ev g inp (.S (nfS s) acc) k r∧∀ p,s=[.mk 0 p 0]→acc = .nil→Ev g inp (.P (nfP p)) k r
 | .C c=>Ev g inp (.C (nfC c)) k r∧∀ p,c=[[.mk 0 p 0]]→Ev g inp (.P (nfP p)) k r
theorem zpP:nfC zk6.choice=zk6.choice:=by simp[nfC,nfQ,nfS,nfT,nfU,nfP]
theorem zpQ:nfC zjz.choice=zjz.choice:=by simp[nfC,nfQ,nfS,nfT,nfU,nfP]
theorem zoL {g:List ze} {inp:z7} {s:List Term} {k:Nat} {r:Out} (h:Ev g inp (.S (nfS s) .nil) k r):Ev g inp (.S (nfQ s) .nil) k r:=by
 cases s with
 | nil=>
  cases h with
  | snil=>exact .sstep (m:=.nil) (.tplain (.iplain (.pgroup (.chit .snil)))) .snil
 | cons t s=>exact h
theorem Ev.nf {c:Z5} {inp:z7} {x:Ex} {k:Nat} {r:Out} (h:Ev (gs c) inp x k r):inX zkf x→NfX (gs (nfC c)) inp k r x:=by
 induction h with
 | cnil=>intro _;exact⟨.cnil,fun p hp=>by cases hp⟩
 | chit h1 ih=>
  intro hi
  obtain⟨a1,a2⟩:=ih hi.1
  refine⟨.chit (zoL a1),fun p hp=>?_⟩
  cases hp
  exact a2 p rfl rfl
 | cmiss h1 h2 i1 i2=>
  intro hi
  obtain⟨a1,a2⟩:=i1 hi.1
  obtain⟨b1,b2⟩:=i2 hi.2
  refine⟨.cmiss (zoL a1) b1,fun p hp=>?_⟩
  cases hp
  cases h2 with
  | cnil=>exact a2 p rfl rfl
 | snil=>intro _;exact⟨.snil,fun p hp=>by cases hp⟩
 | sfail h1 ih=>
  intro hi
  obtain⟨a1,a2⟩:=ih hi.1
  exact⟨.sfail a1,fun p hp _=>by cases hp;exact a2 p rfl⟩
 | sstep h1 h2 i1 i2=>
  intro hi
  obtain⟨a1,a2⟩:=i1 hi.1
  obtain⟨b1,b2⟩:=i2 hi.2
  refine⟨.sstep a1 b1,fun p hp ha=>?_⟩
  cases hp
  subst ha
  cases h2 with
  | snil=>exact a2 p rfl
 | tplain h1 ih=>
  intro hi
  rename_i p b k1 r1
  obtain⟨a1,a2⟩:=ih hi
  by_cases hb:b=0
  ·subst hb
   obtain⟨b1,b2⟩:=a2 rfl
   refine⟨by rw[znz];exact b2,fun p' hp=>?_⟩
   cases hp
   exact b1
  ·refine⟨by rw[znj (by simp[hb])];exact .tplain a1,fun p' hp=>?_⟩
   cases hp
   exact absurd rfl hb
 | tand h1 ih=>
  intro hi
  obtain⟨a1,a2⟩:=ih hi
  refine⟨by rw[znj (by simp)];exact .tand a1,fun p' hp=>?_⟩
  simp at hp
 | tnot h1 ih=>
  intro hi
  obtain⟨a1,a2⟩:=ih hi
  refine⟨by rw[znj (by simp)];exact .tnot a1,fun p' hp=>?_⟩
  simp at hp
 | iplain h1 ih=>
  intro hi
  obtain⟨a1,a2⟩:=ih hi
  exact⟨.iplain a1,fun _=>⟨a1,a2⟩⟩
 | imaybe h1 ih=>intro hi;exact⟨.imaybe (ih hi).1,fun h=>absurd h (by decide)⟩
 | istar h1 ih=>intro hi;exact⟨.istar (ih hi),fun h=>absurd h (by decide)⟩
 | iplus h1 ih=>intro hi;exact⟨.iplus (ih hi),fun h=>absurd h (by decide)⟩
 | qno h1 ih=>intro hi;exact .qno (ih hi).1
 | qlast h1 h2 i1 i2=>intro hi;exact .qlast (i1 hi).1 (i2 hi)
 | qmore h1 h2 i1 i2=>intro hi;exact .qmore (i1 hi).1 (i2 hi)
 | pname hh hc h1 ih=>
  intro hi
  rename_i b k1 r1
  have hb:b=zbT∨b=zbU:=by
   simp only[inX,inP,List.mem_cons,List.not_mem_nil,or_false] at hi
   exact hi
  have h2:Ev (gs (nfC c)) inp (.P (.name b)) k1 (QZ (idx0 (zg (gs c)) b) k1 r1):=by
   rcases hb with rfl | rfl
   ·have:=(ih zma).1
    have e:nfC (gs c)[idx0 (zg (gs c)) zbT].choice=zk6.choice:=zpP
    rw[e] at this
    exact Ev.pname (g:=gs (nfC c)) (b:=zbT) (by show idx0 K2 zbT<3;decide) (by rfl) this
   ·have:=(ih zmd).1
    have e:nfC (gs c)[idx0 (zg (gs c)) zbU].choice=zjz.choice:=zpQ
    rw[e] at this
    exact Ev.pname (g:=gs (nfC c)) (b:=zbU) (by show idx0 K2 zbU<3;decide) (by rfl) this
  exact⟨by simp only[nfP];exact h2,by simp only[nfU];exact .tplain (.iplain h2)⟩
 | plit h=>intro _;exact⟨by simp only[nfP];exact .plit h,by simp only[nfU];exact .tplain (.iplain (.plit h))⟩
 | pcls h=>intro _;exact⟨by simp only[nfP];exact .pcls h,by simp only[nfU];exact .tplain (.iplain (.pcls h))⟩
 | pany=>intro _;exact⟨by simp only[nfP];exact .pany,by simp only[nfU];exact .tplain (.iplain .pany)⟩
 | pgroup h1 ih=>
  intro hi
  rename_i c1 k1 r1
  obtain⟨a1,a2⟩:=ih hi
  rcases znq c1 with rfl | ⟨a,p,b,rfl⟩ | hw
  ·have h2:=zlN h1
   cases h2 with
   | snil=>exact⟨.pgroup (.chit .snil),.tplain (.iplain (.pgroup (.chit .snil)))⟩
  ·have a3:Ev (gs (nfC c)) inp (.C [[nfT (.mk a p b)]]) k1 r1:=a1
   have a4:=zpG a3
   show Ev _ _ (.P (nfP _)) _ _∧Ev _ _ (.T (nfU _)) _ _
   rw[zny,znA]
   by_cases h:a=0∧b=0
   ·obtain⟨rfl,rfl⟩:=h
    rw[if_pos ⟨rfl,rfl⟩,if_pos ⟨rfl,rfl⟩]
    rw[znz] at a4
    exact⟨a2 p rfl,a4⟩
   ·rw[if_neg h,if_neg h]
    exact⟨.pgroup a3,a4⟩
  ·show Ev _ _ (.P (nfP _)) _ _∧Ev _ _ (.T (nfU _)) _ _
   rw[znH hw,znI hw]
   exact⟨.pgroup a1,.tplain (.iplain (.pgroup a1))⟩
end Go.Proofs.YtiganlkabilblaaGreatDoor
