import Derived.Test.YtiganlkabilblaaGreatDoorVS23
import Derived.Test.YtiganlkabilblaaGreatDoorVS00
import Derived.Test.YtiganlkabilblaaGreatDoorVS24
import Derived.Test.YtiganlkabilblaaGreatDoorVS14
set_option linter.all false
set_option maxHeartbeats 64000000
set_option maxRecDepth 100000
namespace Go.Proofs.YtiganlkabilblaaGreatDoor
open Go.RowKit
abbrev gs (c:Thk.Z5):List Thk.ze:=[⟨nmS,c⟩,zk6,zjz]
theorem zkr {x:List UInt8} {dep:Nat} {c:Thk.Z5} (hx:Px x dep c) (hd:dep≤6):Thk.ZU 0 (Thk.Qn (hdB++(x++zjP))) (.ok (gs c)):=by
 rw[YZ,zkQ]
 have h1:=hx 0 5 zjP (by omega) (zlv _)
 rw[zkm] at h1
 exact .more (.ok rfl rfl (by decide) h1) (by simp[zk0,Thk.hd]) (zlr _)
theorem zla {c:Thk.Z5} {e:Bool} (hu:Thk.zx (zv K2) c=false)
  (h3:∀ E:List UInt8→Bool,E zbT=false→E zbU=false→Thk.Zl E c=e∧Thk.zx (zJ E) c=false∧∀ b ∈ Thk.ZC E c,b=zbT∨b=zbU) (x:Nat × Nat):¬ Qh (gs c) (.error x):=by
 have hn:zg (gs c)=K2:=rfl
 have hE0:∀ E,QQ K2 (gs c) E→Eb K2 E zbT=false∧Eb K2 E zbU=false:=by
  intro E hE
  have hc:QP K2 (gs c) [e,false,false]:=by
   intro i hi
   rcases lt3 hi with rfl | rfl | rfl
   ·intro h
    have:=(h3 (Eb K2 [e,false,false]) rfl rfl).1
    simp only[List.getElem_cons_zero] at h
    rw[this] at h
    simp[h]
   ·intro h;simp[Thk.Zl,Thk.ZH,Thk.Zu,Thk.Ze] at h
   ·intro h;simp[Thk.Zl,Thk.ZH,Thk.Zu,Thk.Ze] at h
  constructor
  ·have:=hE _ hc 1
   show E.getD 1 false=false
   cases h:E.getD 1 false with
   | false=>rfl
   | true=>exact absurd (this h) (by simp)
  ·have:=hE _ hc 2
   show E.getD 2 false=false
   cases h:E.getD 2 false with
   | false=>rfl
   | true=>exact absurd (this h) (by simp)
 intro h
 cases h with
 | twice h=>
  obtain⟨h1,h2,_⟩:=h
  rcases lt3 h1 with rfl | rfl | rfl<;>exact absurd h2 (by rw[hn];decide)
 | unknown _ h=>
  obtain⟨h1,h2,_⟩:=h
  rw[hn] at h2
  rcases lt3 h1 with rfl | rfl | rfl
  ·simp only[List.getElem_cons_zero] at h2
   rw[hu] at h2;cases h2
  ·simp[Thk.zx,Thk.Zc,Thk.ZG,Thk.Zi,zv,Thk.Term.piece] at h2
  ·simp[Thk.zx,Thk.Zc,Thk.ZG,Thk.Zi,zv,Thk.Term.piece] at h2
 | loop _ _ _ _ hl h=>
  rw[hn] at hl h
  obtain⟨h1,h2,_⟩:=h
  obtain⟨q1,q2⟩:=hE0 _ hl
  obtain⟨_,q3,_⟩:=h3 _ q1 q2
  rcases lt3 h1 with rfl | rfl | rfl
  ·simp only[List.getElem_cons_zero] at h2
   rw[q3] at h2;cases h2
  ·simp[Thk.zx,Thk.Zc,Thk.ZG,Thk.Zi,zJ,Thk.Term.piece,Thk.Term.behind] at h2
  ·simp[Thk.zx,Thk.Zc,Thk.ZG,Thk.Zi,zJ,Thk.Term.piece,Thk.Term.behind] at h2
 | left a1 a2 a3 a4 hl a6 h=>
  rename_i E i
  rw[hn] at hl h
  obtain⟨h1,h2,_⟩:=h
  obtain⟨q1,q2⟩:=hE0 _ hl
  obtain⟨_,_,q3⟩:=h3 _ q1 q2
  have r1:∀ j,Za K2 E (gs c) 1 j=false:=by
   intro j
   show (ZJ K2 _ (Thk.ZC (Eb K2 E) zk6.choice)).getD j false=false
   rw[zkd _ _ _ _ (by simp[Thk.ZC,Thk.Q2,Thk.JR,Thk.Zy,Thk.Zu,Thk.Ze])]
   exact zkx j
  have r2:∀ j,Za K2 E (gs c) 2 j=false:=by
   intro j
   show (ZJ K2 _ (Thk.ZC (Eb K2 E) zjz.choice)).getD j false=false
   rw[zkd _ _ _ _ (by simp[Thk.ZC,Thk.Q2,Thk.JR,Thk.Zy,Thk.Zu,Thk.Ze])]
   exact zkx j
  have r0:∀ i,Za K2 E (gs c) i 0=false:=by
   intro i
   match i with
   | 1=>exact r1 0
   | 2=>exact r2 0
   | 0=>
    show (ZJ K2 _ (Thk.ZC (Eb K2 E) c)).getD 0 false=false
    rw[zkd]
    ·rfl
    ·intro b hb
     rcases q3 b hb with rfl | rfl<;>decide
   | n+3=>rfl
  have:=Wm3 _ r1 r2 r0 i h1
  rw[show (gs c).length=3 from rfl] at h2
  rw[this] at h2;cases h2
theorem Zo.gram {l:List UInt8} {g g':List Thk.ze} {E:List Bool} (h:Zo l (.ok (g',E))) (hg:Thk.ZU 0 (Thk.Qn l) (.ok g)):g'=g:=by
 cases h with
 | ok h _=>
  cases h with
  | read _ h=>have:=h.det hg;cases this;rfl
end Go.Proofs.YtiganlkabilblaaGreatDoor
namespace Go.Proofs.YtiganlkabilblaaGreatDoor
open Thk
mutual
def inP (l:List z7):zC→Prop
 | .name b=>b ∈ l
 | .group c=>inC l c
 | .lit _=>True
 | .cls _=>True
 | .any=>True
def inT (l:List z7):Term→Prop
 | .mk _ p _=>inP l p
def inS (l:List z7):List Term→Prop
 | []=>True
 | t::s=>inT l t∧inS l s
def inC (l:List z7):List (List Term)→Prop
 | []=>True
 | s::c=>inS l s∧inC l c
end
def inX (l:List z7):Ex→Prop
 | .P p=>inP l p
 | .Q p=>inP l p
 | .I p _=>inP l p
 | .T t=>inT l t
 | .S s _=>inS l s
 | .C c=>inC l c
mutual
theorem zmb {l:List z7}:∀ p:zC,Zi (zv l) p=false→(∀ b,p = .name b→b ∈ l)→inP l p
 | .name b,_,h=>h b rfl
 | .group c,e,_=>by simp only[Zi] at e;exact zlF c e
 | .lit _,_,_=>trivial
 | .cls _,_,_=>trivial
 | .any,_,_=>trivial
theorem zmc {l:List z7}:∀ t:Term,ZG (zv l) t=false→inT l t
 | .mk a p b,e=>by
  simp only[ZG,Bool.or_eq_false_iff] at e
  refine zmb p e.2 (fun b hb=>?_)
  subst hb
  have:=e.1
  simpa [zv,Term.piece] using this
theorem zlO {l:List z7}:∀ s:List Term,Zc (zv l) s=false→inS l s
 | [],_=>trivial
 | t::s,e=>by
  simp only[Zc,Bool.or_eq_false_iff] at e
  exact⟨zmc t e.1,zlO s e.2⟩
theorem zlF {l:List z7}:∀ c:List (List Term),zx (zv l) c=false→inC l c
 | [],_=>trivial
 | s::c,e=>by
  simp only[zx,Bool.or_eq_false_iff] at e
  exact⟨zlO s e.1,zlF c e.2⟩
end
theorem zma:inC zkf zk6.choice:=by simp[inC,inS,inT,inP]
theorem zmd:inC zkf zjz.choice:=by simp[inC,inS,inT,inP]
theorem Ev.swap {c c':Z5} {inp:z7} {x:Ex} {k:Nat} {r:Out} (h:Ev (gs c) inp x k r):inX zkf x→Ev (gs c') inp x k r:=by
 induction h with
 | cnil=>intro _;exact .cnil
 | chit _ ih=>intro hi;exact .chit (ih hi.1)
 | cmiss _ _ i1 i2=>intro hi;exact .cmiss (i1 hi.1) (i2 hi.2)
 | snil=>intro _;exact .snil
 | sfail _ ih=>intro hi;exact .sfail (ih hi.1)
 | sstep _ _ i1 i2=>intro hi;exact .sstep (i1 hi.1) (i2 hi.2)
 | tplain _ ih=>intro hi;exact .tplain (ih hi)
 | tand _ ih=>intro hi;exact .tand (ih hi)
 | tnot _ ih=>intro hi;exact .tnot (ih hi)
 | iplain _ ih=>intro hi;exact .iplain (ih hi)
 | imaybe _ ih=>intro hi;exact .imaybe (ih hi)
 | istar _ ih=>intro hi;exact .istar (ih hi)
 | iplus _ ih=>intro hi;exact .iplus (ih hi)
 | qno _ ih=>intro hi;exact .qno (ih hi)
 | qlast _ _ i1 i2=>intro hi;exact .qlast (i1 hi) (i2 hi)
 | qmore _ _ i1 i2=>intro hi;exact .qmore (i1 hi) (i2 hi)
 | pname h hc _ ih=>
  intro hi
  rename_i b k r _
  have hb:b=zbT∨b=zbU:=by
   simp only[inX,inP,List.mem_cons,List.not_mem_nil,or_false] at hi
   exact hi
  rcases hb with rfl | rfl
  ·exact Ev.pname (g:=gs c') (b:=zbT) (by show idx0 K2 zbT<3;decide) (by rfl) (ih zma)
  ·exact Ev.pname (g:=gs c') (b:=zbU) (by show idx0 K2 zbU<3;decide) (by rfl) (ih zmd)
 | plit h=>intro _;exact .plit h
 | pcls h=>intro _;exact .pcls h
 | pany=>intro _;exact .pany
 | pgroup _ ih=>intro hi;exact .pgroup (ih hi)
def shN (n:Nat):Nt→Nt
 | .nil=>.nil
 | .use i a b m=>.use i (a - n) (b - n) (shN n m)
 | .pair a b=>.pair (shN n a) (shN n b)
theorem zlR (n:Nat) (a b:Nt):shN n (jn a b)=jn (shN n a) (shN n b):=by
 cases a<;>cases b<;>rfl
def shO (n:Nat):Out→Out
 | none=>none
 | some (e,m)=>some (e - n,shN n m)
def shX (n:Nat):Ex→Ex
 | .S s acc=>.S s (shN n acc)
 | x=>x
theorem zlT (n k:Nat) (b:Bool) (r:Out):shO n (Ja k b r)=Ja (k - n) b (shO n r):=by
 have:(shO n r).isSome=r.isSome:=by cases r<;>rfl
 unfold Ja
 rw[this]
 split<;>rfl
theorem zlU (n k:Nat) (r:Out):shO n (Kg k r)=Kg (k - n) (shO n r):=by
 cases r<;>rfl
theorem zlS (pre rest:z7) (k:Nat) (f:UInt8→Bool):shO pre.length (Qj (pre++rest) (pre.length+k) f)=Qj rest k f:=by
 unfold Qj
 rw[List.getElem?_append_right (by omega),Nat.add_sub_cancel_left]
 cases rest[k]? with
 | none=>rfl
 | some c=>
  simp only[]
  split
  ·simp only[shO,shN,Option.some.injEq,Prod.mk.injEq,and_true];omega
  ·rfl
theorem zmh (pre rest:z7) (k:Nat) (b:z7):shO pre.length (Ya (pre++rest) (pre.length+k) b)=Ya rest k b:=by
 unfold Ya
 rw[List.drop_append,List.drop_eq_nil_of_le (by omega),List.nil_append,Nat.add_sub_cancel_left]
 split
 ·simp only[shO,shN,Option.some.injEq,Prod.mk.injEq,and_true];omega
 ·rfl
theorem Ev.shift {g:List ze} {pre rest:z7} {x:Ex} {k0:Nat} {r:Out} (h:Ev g (pre++rest) x k0 r):∀ k,k0=pre.length+k→k≤rest.length→Ev g rest (shX pre.length x) k (shO pre.length r):=by
 have hlen:(pre++rest).length=pre.length+rest.length:=List.length_append
 induction h with
 | cnil=>intro k _ _;exact .cnil
 | chit h ih=>
  intro k hk hl
  exact .chit (ih k hk hl)
 | cmiss _ _ i1 i2=>intro k hk hl;exact .cmiss (i1 k hk hl) (i2 k hk hl)
 | snil=>
  intro k hk hl
  subst hk
  have:pre.length+k - pre.length=k:=by omega
  simp only[shO,shX,this]
  exact .snil
 | sfail _ ih=>intro k hk hl;exact .sfail (ih k hk hl)
 | sstep h1 _ i1 i2=>
  intro k hk hl
  rename_i t s acc k0 e m r _
  have hle:=h1.le (by omega) e m rfl
  have h3:=i1 k hk hl
  have h4:=i2 (e - pre.length) (by omega) (by omega)
  simp only[shX,zlR] at h4
  exact .sstep h3 h4
 | tplain _ ih=>intro k hk hl;exact .tplain (ih k hk hl)
 | tand _ ih=>
  intro k hk hl
  rw[zlT,hk,Nat.add_sub_cancel_left]
  exact .tand (ih k hk hl)
 | tnot _ ih=>
  intro k hk hl
  rw[zlT,hk,Nat.add_sub_cancel_left]
  exact .tnot (ih k hk hl)
 | iplain _ ih=>intro k hk hl;exact .iplain (ih k hk hl)
 | imaybe _ ih=>
  intro k hk hl
  rw[zlU,hk,Nat.add_sub_cancel_left]
  exact .imaybe (ih k hk hl)
 | istar _ ih=>
  intro k hk hl
  rw[zlU,hk,Nat.add_sub_cancel_left]
  exact .istar (ih k hk hl)
 | iplus _ ih=>intro k hk hl;exact .iplus (ih k hk hl)
 | qno _ ih=>intro k hk hl;exact .qno (ih k hk hl)
 | qlast h1 _ i1 i2=>
  intro k hk hl
  rename_i p k0 e m _
  have hle:=h1.le (by omega) e m rfl
  exact .qlast (i1 k hk hl) (i2 (e - pre.length) (by omega) (by omega))
 | qmore h1 _ i1 i2=>
  intro k hk hl
  rename_i p k0 e m e2 m2 _
  have hle:=h1.le (by omega) e m rfl
  have:=Ev.qmore (i1 k hk hl) (i2 (e - pre.length) (by omega) (by omega))
  simp only[shO,zlR]
  exact this
 | pname h hc h1 ih=>
  intro k hk hl
  rename_i b k0 r
  have h2:=Ev.pname h hc (ih k hk hl)
  have:shO pre.length (QZ (idx0 (zg g) b) k0 r)=QZ (idx0 (zg g) b) k (shO pre.length r):=by
   cases r with
   | none=>rfl
   | some x=>
    obtain⟨e,m⟩:=x
    have hle:=h1.le (by omega) e m rfl
    simp only[QZ,shO]
    by_cases hke:k0<e
    ·rw[if_pos hke,if_pos (by omega)]
     simp only[shO,shN]
     rw[show k0 - pre.length=k from by omega]
    ·rw[if_neg hke,if_neg (by omega)]
     rfl
  rw[this]
  exact h2
 | plit h=>intro k hk hl;subst hk;rw[zmh];exact .plit h
 | pcls h=>intro k hk hl;subst hk;rw[zlS];exact .pcls h
 | pany=>intro k hk hl;subst hk;rw[zlS];exact .pany
 | pgroup _ ih=>intro k hk hl;exact .pgroup (ih k hk hl)
def Gt (c:Z5) (e:Bool):Prop:=zx (zv zkf) c=false ∧
  ∀ E:List UInt8→Bool,E zbT=false→E zbU=false→Zl E c=e∧zx (zJ E) c=false∧∀ b ∈ ZC E c,b=zbT∨b=zbU
theorem Gx.gt {x:List UInt8} {e:Bool} {dep:Nat} (h:Gx x e dep):∃ c,Px x dep c∧Gt c e:=h
theorem Gt.names {c:Z5} {e:Bool} (h:Gt c e):inC zkf c:=zlF c h.1
theorem zm0 {c c':Z5} {e e':Bool} (hx:Gt c e) (hy:Gt c' e'):Gt [[.mk 0 (.group c) 0],[.mk 0 (.group c') 0]] (e || e'):=by
 obtain⟨h2,h3⟩:=hx
 obtain⟨h2',h3'⟩:=hy
 refine⟨?_,?_⟩
 ·simp[zx,Zc,ZG,Zi,zv,Term.piece] at h2 h2' ⊢
  exact⟨h2,h2'⟩
 ·intro E hE hF
  obtain⟨q1,q2,q3⟩:=h3 E hE hF
  obtain⟨r1,r2,r3⟩:=h3' E hE hF
  refine⟨?_,?_,?_⟩
  ·simp[Zl,ZH,Zu,Ze,q1,r1]
  ·simp[zx,Zc,ZG,Zi,zJ,Term.piece,Term.behind] at q2 r2 ⊢
   exact⟨q2,r2⟩
  ·intro b hb
   simp[ZC,Q2,JR,Zy] at hb
   rcases hb with hb | hb
   ·exact q3 b hb
   ·exact r3 b hb
theorem zlZ {c c':Z5} {e e':Bool} (hx:Gt c e) (hy:Gt c' e'):Gt [[.mk 0 (.group c) 0,.mk 0 (.group c') 0]] (e && e'):=by
 obtain⟨h2,h3⟩:=hx
 obtain⟨h2',h3'⟩:=hy
 refine⟨?_,?_⟩
 ·simp[zx,Zc,ZG,Zi,zv,Term.piece] at h2 h2' ⊢
  exact⟨h2,h2'⟩
 ·intro E hE hF
  obtain⟨q1,q2,q3⟩:=h3 E hE hF
  obtain⟨r1,r2,r3⟩:=h3' E hE hF
  refine⟨?_,?_,?_⟩
  ·simp[Zl,ZH,Zu,Ze,q1,r1]
  ·simp[zx,Zc,ZG,Zi,zJ,Term.piece,Term.behind] at q2 r2 ⊢
   exact⟨q2,r2⟩
  ·intro b hb
   simp[ZC,Q2,JR,Zy] at hb
   rcases hb with hb | ⟨_,hb⟩
   ·exact q3 b hb
   ·exact r3 b hb
theorem zb {e:Bool} (a k:UInt8) {c:Z5} (h:Gt c e) (hl:e=true→k≠42∧k≠43):Gt [[.mk a (.group c) k]] ((a != 0 || k == 63 || k == 42) || e):=by
 obtain⟨h2,h3⟩:=h
 refine⟨?_,?_⟩
 ·simp[zx,Zc,ZG,Zi,zv,Term.piece] at h2 ⊢
  exact h2
 ·intro E hE hF
  obtain⟨q1,q2,q3⟩:=h3 E hE hF
  refine⟨?_,?_,?_⟩
  ·simp[Zl,ZH,Zu,Ze,q1]
  ·simp only[zx,Zc,ZG,Zi,Bool.or_false,q2]
   simp only[zJ,Term.piece,Term.behind,Ze,q1]
   cases e with
   | false=>simp
   | true=>obtain⟨g1,g2⟩:=hl rfl;simp[g1,g2]
  ·intro b hb
   simp[ZC,Q2,JR,Zy] at hb
   exact q3 b hb
theorem zm1 {x y:List UInt8} {d1 d2:Nat} {c c':Z5} (hx:Px x d1 c) (hy:Px y d2 c'):Px (brk [] x++[32,47,32]++brk [] y) (max (d1+1) (d2+1)) [[.mk 0 (.group c) 0],[.mk 0 (.group c') 0]]:=by
 have hb:([]:List UInt8) ∈ z4:=by simp[z4]
 intro d pos tail hd hs
 have e1:brk [] x++[32,47,32]++brk [] y++tail=brk [] x++(32::47::32::(brk [] y++tail)):=by simp
 have e2:pos+(brk [] x++[32,47,32]++brk [] y).length=pos+(brk [] x).length+1+1+1+(brk [] y).length:=by simp;omega
 rw[e2] at hs ⊢
 rw[e1]
 have hr:TL (pos+(brk [] x).length) (32::47::32::(brk [] y++tail))=⟨.sign 47,pos+(brk [] x).length+1,1,[],[]⟩::TL (pos+(brk [] x).length+1+1+1) (brk [] y++tail):=by
  rw[zka 32 _ _ (by decide),qt 47 _ _ (by decide),zka 32 _ _ (by decide)]
 obtain⟨h1,h2⟩:=zjY hb hx d pos (32::47::32::(brk [] y++tail)) (by omega) (by rw[hr];rfl)
 have h3:=zjY hb hy d (pos+(brk [] x).length+1+1+1) tail (by omega) hs.behind
 refine .more (.cons h1 h2 (.nil (by rw[hr];rfl))) (by rw[hr];rfl) ?_
 rw[hr]
 exact .last (.cons h3.1 h3.2 (.nil hs.none)) hs.slash
theorem zlP {c:Z5} {E:List Bool} (hE:QQ K2 (gs c) E):Eb K2 E zbT=false∧Eb K2 E zbU=false:=by
 have hc:QP K2 (gs c) [true,false,false]:=by
  intro i hi
  rcases lt3 hi with rfl | rfl | rfl
  ·intro _;rfl
  ·intro h;simp[Zl,ZH,Zu,Ze] at h
  ·intro h;simp[Zl,ZH,Zu,Ze] at h
 constructor
 ·have:=hE _ hc 1
  show E.getD 1 false=false
  cases h:E.getD 1 false with
  | false=>rfl
  | true=>exact absurd (this h) (by simp)
 ·have:=hE _ hc 2
  show E.getD 2 false=false
  cases h:E.getD 2 false with
  | false=>rfl
  | true=>exact absurd (this h) (by simp)
theorem Zo.least {l:List UInt8} {g:List ze} {E:List Bool} (h:Zo l (.ok (g,E))):QQ (zg g) g E:=by
 cases h with
 | ok _ h=>cases h;assumption
theorem zm8 {l:List UInt8} {c:Z5} {e:Bool} (hG:ZU 0 (Qn l) (.ok (gs c))) (ht:Gt c e) (hl:l.length≤2000) {res:Except (Nat × Nat) (List ze × List Bool)} (h:Zo l res):∃ E,res = .ok (gs c,E):=by
 obtain⟨⟨g,E⟩,rfl⟩:=h.fine hl hG (zla (zlz ht.1) ht.2)
 exact⟨E,by rw[h.gram hG]⟩
theorem zmg {l:List UInt8} {c:Z5} (hG:ZU 0 (Qn l) (.ok (gs [[.mk 0 (.group c) 42]]))) (ht:Gt c true) (hl:l.length≤2000) {res:Except (Nat × Nat) (List ze × List Bool)} (h:Zo l res):∃ p,res = .error (7,p):=by
 have hn:zg (gs [[.mk 0 (.group c) 42]])=K2:=rfl
 have key:∀ E,QQ K2 (gs [[.mk 0 (.group c) 42]]) E→¬ Qp (gs [[.mk 0 (.group c) 42]]) (zx (zJ (Eb K2 E))) none:=by
  intro E hE hF
  obtain⟨q1,q2⟩:=zlP hE
  have h0:zx (zJ (Eb K2 E)) [[.mk 0 (.group c) 42]]=false:=hF 0 (by show (0:Nat)<3;decide)
  have h1:=(ht.2 _ q1 q2).1
  simp[zx,Zc,ZG,Zi,zJ,Term.piece,Term.behind,Ze,h1] at h0
 cases h with
 | text h=>
  cases h with
  | long h=>omega
  | read _ h=>have:=hG.det h;cases this
 | rules h h'=>
  cases h with
  | read _ h=>
   have:=hG.det h;cases this
   cases h' with
   | twice h=>
    obtain⟨h1,h2,_⟩:=h
    rcases lt3 h1 with rfl | rfl | rfl<;>exact absurd h2 (by rw[hn];decide)
   | unknown _ h=>
    obtain⟨h1,h2,_⟩:=h
    rw[hn] at h2
    have hu:=zlz ht.1
    rcases lt3 h1 with rfl | rfl | rfl
    ·simp[zx,Zc,ZG,Zi,zv,Term.piece] at h2 hu
     rw[hu] at h2;cases h2
    ·simp[zx,Zc,ZG,Zi,zv,Term.piece] at h2
    ·simp[zx,Zc,ZG,Zi,zv,Term.piece] at h2
   | loop _ _ _ _ hl h=>exact⟨_,rfl⟩
   | left _ _ _ _ hl h=>exact absurd h (key _ hl)
 | ok h h'=>
  cases h with
  | read _ h=>
   have:=hG.det h;cases this
   cases h' with
   | ok _ _ _ _ hl h=>exact absurd h (key _ hl)
section
variable {g : List ze} {inp : z7}
theorem qg {t:Term} {k:Nat} {r:Out} (h:Ev g inp (.T t) k r):∃ a p b r',t = .mk a p b∧Ev g inp (.I p b) k r'∧((a=0∧r=r')∨(a=38∧r=Ja k true r')∨(a=33∧r=Ja k false r')):=by
 cases h with
 | tplain h=>exact⟨_,_,_,_,rfl,h,.inl ⟨rfl,rfl⟩⟩
 | tand h=>exact⟨_,_,_,_,rfl,h,.inr (.inl ⟨rfl,rfl⟩)⟩
 | tnot h=>exact⟨_,_,_,_,rfl,h,.inr (.inr ⟨rfl,rfl⟩)⟩
theorem q7 {p:zC} {b:UInt8} {k:Nat} {r:Out} (h:Ev g inp (.I p b) k r):(b=0∧Ev g inp (.P p) k r)∨(b=63∧∃ r',Ev g inp (.P p) k r'∧r=Kg k r')∨(b=42∧∃ r',Ev g inp (.Q p) k r'∧r=Kg k r')∨(b=43∧Ev g inp (.Q p) k r):=by
 cases h with
 | iplain h=>exact .inl ⟨rfl,h⟩
 | imaybe h=>exact .inr (.inl ⟨rfl,_,h,rfl⟩)
 | istar h=>exact .inr (.inr (.inl ⟨rfl,_,h,rfl⟩))
 | iplus h=>exact .inr (.inr (.inr ⟨rfl,h⟩))
theorem zlD {c:Z5} {k:Nat} {r:Out} (h:Ev g inp (.P (.group c)) k r):Ev g inp (.C c) k r:=by
 cases h with
 | pgroup h=>exact h
theorem zlA {c:Z5} {k:Nat} {r:Out} (h:Ev g inp (.T (.mk 0 (.group c) 0)) k r):Ev g inp (.C c) k r:=by
 obtain⟨a,p,b,r',he,hI,hc⟩:=qg h
 cases he
 rcases hc with ⟨_,rfl⟩ | ⟨h0,_⟩ | ⟨h0,_⟩
 ·rcases q7 hI with ⟨_,h⟩ | ⟨h0,_⟩ | ⟨h0,_⟩ | ⟨h0,_⟩
  ·exact zlD h
  ·exact absurd h0 (by decide)
  ·exact absurd h0 (by decide)
  ·exact absurd h0 (by decide)
 ·exact absurd h0 (by decide)
 ·exact absurd h0 (by decide)
theorem zlE {t:Term} {acc:Nt} {k:Nat} {r:Out} (h:Ev g inp (.S [t] acc) k r):∃ r',Ev g inp (.T t) k r'∧fin r=fin r':=by
 cases h with
 | sfail h=>exact⟨_,h,rfl⟩
 | sstep h h2=>
  cases h2 with
  | snil=>exact⟨_,h,rfl⟩
theorem zlN {s:List Term} {k:Nat} {r:Out} (h:Ev g inp (.C [s]) k r):Ev g inp (.S s .nil) k r:=by
 cases h with
 | chit h=>exact h
 | cmiss h h2=>
  cases h2 with
  | cnil=>exact h
theorem zlB {t:Term} {k:Nat} {r:Out} (h:Ev g inp (.C [[t]]) k r):∃ r',Ev g inp (.T t) k r'∧fin r=fin r':=zlE (zlN h)
end
def Tk (c:Z5) (inp:z7) (n:Option Nat):Prop:=∃ o,Ev (gs c) inp (.C c) 0 o∧fin o=n
theorem Tk.of {c c0:Z5} {inp:z7} {n:Option Nat} {o:Out} (h:Tk c inp n) (hi:inC zkf c) (k:Ev (gs c0) inp (.C c) 0 o):fin o=n:=by
 obtain⟨o',h1,rfl⟩:=h
 rw[(h1.swap (c':=c0) hi).det _ k]
theorem zlI {c c':Z5} {inp:z7} {n na nb:Option Nat} (h:Tk [[.mk 0 (.group c) 0],[.mk 0 (.group c') 0]] inp n) (ha:Tk c inp na) (hb:Tk c' inp nb) (hi:inC zkf c) (hi':inC zkf c'):n=if na.isSome then na else nb:=by
 obtain⟨o,ho,rfl⟩:=h
 cases ho with
 | chit h1=>
  obtain⟨r',hT,he⟩:=zlE h1
  have:=ha.of hi (zlA hT)
  rw[← this,← he]
  rfl
 | cmiss h1 h2=>
  obtain⟨r',hT,he⟩:=zlE h1
  have h3:=ha.of hi (zlA hT)
  rw[← h3,← he]
  obtain⟨r2,hT2,he2⟩:=zlB h2
  have h4:=hb.of hi' (zlA hT2)
  rw[← h4,← he2]
  rfl
theorem Tk.behind {c c0:Z5} {inp:z7} {n:Option Nat} {o:Out} {k:Nat} (h:Tk c (inp.drop k) n) (hi:inC zkf c) (hk:k≤inp.length) (hE:Ev (gs c0) inp (.C c) k o):(fin o=none∧n=none)∨∃ d,n=some d∧fin o=some (k+d)∧k+d≤inp.length:=by
 have hle:=hE.le hk
 have hlen:(inp.take k).length=k:=by rw[List.length_take];omega
 have h1:Ev (gs c0) (inp.take k++inp.drop k) (.C c) k o:=by rw[List.take_append_drop];exact hE
 have h2:=h1.shift 0 (by omega) (Nat.zero_le _)
 have h3:=h.of hi h2
 rw[hlen] at h3
 cases o with
 | none=>exact .inl ⟨rfl,h3.symm⟩
 | some x=>
  obtain⟨e,m⟩:=x
  obtain⟨l1,l2⟩:=hle e m rfl
  refine .inr ⟨e - k,h3.symm,?_,by omega⟩
  show some e=some (k+(e - k))
  congr 1;omega
theorem zlX {c c':Z5} {inp:z7} {n na:Option Nat} (h:Tk [[.mk 0 (.group c) 0,.mk 0 (.group c') 0]] inp n) (ha:Tk c inp na) (hi:inC zkf c) (hi':inC zkf c'):(na=none→n=none)∧∀ a nc,na=some a→Tk c' (inp.drop a) nc→n=nc.map (a + ·):=by
 obtain⟨o,ho,rfl⟩:=h
 have h1:=zlN ho
 cases h1 with
 | sfail hT=>
  have h3:=ha.of hi (zlA hT)
  exact⟨fun _=>rfl,fun a nc hna=>by rw[← h3] at hna;cases hna⟩
 | sstep hT h2=>
  rename_i e m
  have h3:=ha.of hi (zlA hT)
  have hl:=(hT.le (Nat.zero_le _) e m rfl).2
  refine⟨fun hna=>(by rw[← h3] at hna;cases hna),fun a nc hna hc=>?_⟩
  rw[← h3] at hna
  obtain rfl:e=a:=by cases hna;rfl
  obtain⟨r2,hT2,he2⟩:=zlE h2
  rw[he2]
  rcases hc.behind hi' hl (zlA hT2) with ⟨h4,rfl⟩ | ⟨d,rfl,h4,_⟩
  ·rw[h4];rfl
  ·rw[h4];rfl
theorem zlG {c:Z5} {inp:z7} {n na:Option Nat} (h:Tk [[.mk 0 (.group c) 63]] inp n) (ha:Tk c inp na) (hi:inC zkf c):n=some (na.getD 0):=by
 obtain⟨o,ho,rfl⟩:=h
 obtain⟨r,hT,he⟩:=zlB ho
 obtain⟨a,p,b,r',hq,hI,hc⟩:=qg hT
 cases hq
 rcases hc with ⟨_,rfl⟩ | ⟨h0,_⟩ | ⟨h0,_⟩
 ·rcases q7 hI with ⟨h0,_⟩ | ⟨_,r2,h1,rfl⟩ | ⟨h0,_⟩ | ⟨h0,_⟩
  ·exact absurd h0 (by decide)
  ·have:=ha.of hi (zlD h1)
   rw[he,← this]
   cases r2<;>rfl
  ·exact absurd h0 (by decide)
  ·exact absurd h0 (by decide)
 ·exact absurd h0 (by decide)
 ·exact absurd h0 (by decide)
theorem zlK {c:Z5} {inp:z7} {n na:Option Nat} (h:Tk [[.mk 38 (.group c) 0]] inp n) (ha:Tk c inp na) (hi:inC zkf c):n=if na.isSome then some 0 else none:=by
 obtain⟨o,ho,rfl⟩:=h
 obtain⟨r,hT,he⟩:=zlB ho
 obtain⟨a,p,b,r',hq,hI,hc⟩:=qg hT
 cases hq
 rcases hc with ⟨h0,_⟩ | ⟨_,rfl⟩ | ⟨h0,_⟩
 ·exact absurd h0 (by decide)
 ·rcases q7 hI with ⟨_,h1⟩ | ⟨h0,_⟩ | ⟨h0,_⟩ | ⟨h0,_⟩
  ·have:=ha.of hi (zlD h1)
   rw[he,← this]
   cases r'<;>rfl
  ·exact absurd h0 (by decide)
  ·exact absurd h0 (by decide)
  ·exact absurd h0 (by decide)
 ·exact absurd h0 (by decide)
theorem zlH {c:Z5} {inp:z7} {n na:Option Nat} (h:Tk [[.mk 33 (.group c) 0]] inp n) (ha:Tk c inp na) (hi:inC zkf c):n=if na.isSome then none else some 0:=by
 obtain⟨o,ho,rfl⟩:=h
 obtain⟨r,hT,he⟩:=zlB ho
 obtain⟨a,p,b,r',hq,hI,hc⟩:=qg hT
 cases hq
 rcases hc with ⟨h0,_⟩ | ⟨h0,_⟩ | ⟨_,rfl⟩
 ·exact absurd h0 (by decide)
 ·exact absurd h0 (by decide)
 ·rcases q7 hI with ⟨_,h1⟩ | ⟨h0,_⟩ | ⟨h0,_⟩ | ⟨h0,_⟩
  ·have:=ha.of hi (zlD h1)
   rw[he,← this]
   cases r'<;>rfl
  ·exact absurd h0 (by decide)
  ·exact absurd h0 (by decide)
  ·exact absurd h0 (by decide)
def Rq (c:Z5) (inp:z7) (q:Option Nat):Prop:=∃ r,Ev (gs c) inp (.Q (.group c)) 0 r∧fin r=q
theorem zlL {c:Z5} {inp:z7} {n q:Option Nat} (h:Tk [[.mk 0 (.group c) 42]] inp n) (hq:Rq c inp q) (hi:inC zkf c):n=some (q.getD 0):=by
 obtain⟨o,ho,rfl⟩:=h
 obtain⟨rq,hQ,rfl⟩:=hq
 obtain⟨r,hT,he⟩:=zlB ho
 obtain⟨a,p,b,r',hq,hI,hc⟩:=qg hT
 cases hq
 rcases hc with ⟨_,rfl⟩ | ⟨h0,_⟩ | ⟨h0,_⟩
 ·rcases q7 hI with ⟨h0,_⟩ | ⟨h0,_⟩ | ⟨_,r2,h1,rfl⟩ | ⟨h0,_⟩
  ·exact absurd h0 (by decide)
  ·exact absurd h0 (by decide)
  ·have:=(hQ.swap (c':=[[.mk 0 (.group c) 42]]) hi).det _ h1
   subst this
   rw[he]
   cases rq<;>rfl
  ·exact absurd h0 (by decide)
 ·exact absurd h0 (by decide)
 ·exact absurd h0 (by decide)
theorem zlJ {c:Z5} {inp:z7} {n q:Option Nat} (h:Tk [[.mk 0 (.group c) 43]] inp n) (hq:Rq c inp q) (hi:inC zkf c):n=q:=by
 obtain⟨o,ho,rfl⟩:=h
 obtain⟨rq,hQ,rfl⟩:=hq
 obtain⟨r,hT,he⟩:=zlB ho
 obtain⟨a,p,b,r',hq,hI,hc⟩:=qg hT
 cases hq
 rcases hc with ⟨_,rfl⟩ | ⟨h0,_⟩ | ⟨h0,_⟩
 ·rcases q7 hI with ⟨h0,_⟩ | ⟨h0,_⟩ | ⟨h0,_⟩ | ⟨_,h1⟩
  ·exact absurd h0 (by decide)
  ·exact absurd h0 (by decide)
  ·exact absurd h0 (by decide)
  ·have:=(hQ.swap (c':=[[.mk 0 (.group c) 43]]) hi).det _ h1
   subst this
   rw[he]
 ·exact absurd h0 (by decide)
 ·exact absurd h0 (by decide)
def RpI (c:Z5) (inp:z7) (at_ n:Nat):Prop:=at_≤inp.length∧n≤at_∧∀ r',Ev (gs c) inp (.Q (.group c)) at_ r'→∃ r,Ev (gs c) inp (.Q (.group c)) 0 r∧((n=0∧at_=0∧fin r=fin r')∨(0<n∧fin r=some ((fin r').getD at_)))
theorem RpI.start (c:Z5) (inp:z7):RpI c inp 0 0:=⟨Nat.zero_le _,Nat.le_refl _,fun r' h=>⟨r',h,.inl ⟨rfl,rfl,rfl⟩⟩⟩
theorem RpI.step {c:Z5} {l:List UInt8} {E:List Bool} (hP:Zo l (.ok (gs c,E))) (ht:Gt c false) {inp:z7} {at_ n:Nat} {q:Option Nat} (h:RpI c inp at_ n) (hq:Tk c (inp.drop at_) q):(q=none∧∃ p,Rq c inp p∧((n=0∧at_=0∧p=none)∨(0<n∧p=some at_)))∨∃ d,q=some d∧0<d∧at_+d≤inp.length∧RpI c inp (at_+d) (n+1):=by
 obtain⟨h1,h2,h3⟩:=h
 have hE:=hP.ends
 obtain⟨o,ho⟩:=zjk (inp:=inp) hE _ at_ (Nat.le_refl _) h1 0 hE.pos
 have ho':Ev (gs c) inp (.C c) at_ o:=ho
 rcases hq.behind ht.names h1 ho' with ⟨h4,rfl⟩ | ⟨d,rfl,h4,h5⟩
 ·have:o=none:=by cases o with
   | none=>rfl
   | some x=>cases h4
  subst this
  obtain⟨r,hr,hc⟩:=h3 none (.qno (.pgroup ho'))
  refine .inl ⟨rfl,fin r,⟨r,hr,rfl⟩,?_⟩
  rcases hc with ⟨a1,a2,a3⟩ | ⟨a1,a2⟩
  ·exact .inl ⟨a1,a2,a3⟩
  ·exact .inr ⟨a1,a2⟩
 ·obtain⟨e,m,rfl⟩:∃ e m,o=some (e,m):=by cases o with
   | none=>cases h4
   | some x=>exact⟨x.1,x.2,rfl⟩
  have he:e=at_+d:=by cases h4;rfl
  subst he
  have hd : 0<d:=by
   rcases Nat.eq_zero_or_pos d with h0 | h0
   ·subst h0
    obtain⟨q1,q2⟩:=zlP hP.least
    have he:=ho'.empty hE h1 (hE.good 0 hE.pos) m rfl
    have h0:=(ht.2 _ q1 q2).1
    have he':Zl (Eb K2 E) c=true:=he
    rw[h0] at he'
    cases he'
   ·exact h0
  refine .inr ⟨d,rfl,hd,h5,h5,by omega,fun r' hr'=>?_⟩
  have hQ:∃ r1,Ev (gs c) inp (.Q (.group c)) at_ r1∧fin r1=some ((fin r').getD (at_+d)):=by
   cases r' with
   | none=>exact⟨_,.qlast (.pgroup ho') hr',rfl⟩
   | some x=>exact⟨_,.qmore (.pgroup ho') hr',rfl⟩
  obtain⟨r1,hr1,hf1⟩:=hQ
  obtain⟨r,hr,hc⟩:=h3 r1 hr1
  refine⟨r,hr,.inr ⟨by omega,?_⟩⟩
  rcases hc with ⟨a1,a2,a3⟩ | ⟨a1,a2⟩
  ·rw[a3,hf1]
  ·rw[a2,hf1];rfl
end Go.Proofs.YtiganlkabilblaaGreatDoor
