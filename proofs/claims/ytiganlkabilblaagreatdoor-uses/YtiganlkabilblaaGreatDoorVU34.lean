import Derived.Test.YtiganlkabilblaaGreatDoorVU33
set_option linter.all false
set_option maxHeartbeats 64000000
set_option maxRecDepth 100000
namespace Go.Proofs.YtiganlkabilblaaGreatDoor
open Thk
theorem zmA (pos:Nat) (rest:List UInt8):TL pos (hdB++rest)=⟨.name,pos,1,nmS,[]⟩::⟨.arrow,pos+2,2,[],[]⟩::TL (pos+5) rest:=by
 have h1:=zk3 [115] ([32,60,45,32]++rest) pos ⟨.name,0,1,nmS,[]⟩ (by simp[blk,Y9]) (by simp[zM,Qu,Ql,ZQ]) rfl rfl
 have h2:=zka 32 ([60,45,32]++rest) (pos+1) (by decide)
 have h3:=zk3 [60,45] (32::rest) (pos+1+1) ⟨.arrow,0,2,[],[]⟩ (by simp[blk,Y9]) (by simp[zM,Qu]) rfl rfl
 have h4:=zka 32 rest (pos+1+1+2) (by decide)
 simp only[List.cons_append,List.nil_append,List.length_cons,List.length_nil] at h1 h2 h3 h4 ⊢
 rw[h1,h2,h3,h4]
theorem zmZ (n pos:Nat) (h1:n≠20) (h2:n+1≠20):ZU n (zk0 pos) (.ok [zk6,zjz]):=by
 unfold zk0
 refine .more (.ok rfl rfl h1 (.last (.cons rfl (zk1 rfl rfl rfl) (.cons rfl (zkz rfl (fun _=>rfl)) (.nil rfl))) (by simp[hd]))) (by simp[hd]) (.last (.ok rfl rfl h2 (.more (.cons rfl (zk1 rfl rfl rfl) (.cons rfl (zk1 rfl rfl rfl) (.cons rfl (zk1 rfl rfl rfl) (.nil rfl)))) rfl (.last (.cons rfl (zk1 rfl rfl rfl) (.cons rfl (zkz rfl (fun _=>rfl)) (.nil rfl))) (by simp[hd])))) rfl)
theorem zmS {x:List UInt8} {dep:Nat} {c:Z5} (pos:Nat) (hx:Px x dep c) (hd':dep≤6):ZU 1 (TL pos (hdB++(x++zjP))) (.ok (gs c)):=by
 rw[zmA]
 have h1:=hx 0 (pos+5) zjP (by omega) (zlv _)
 rw[zkm] at h1
 exact .more (.ok rfl rfl (by decide) h1) (by simp[zk0,hd]) (zmZ 2 _ (by decide) (by decide))
abbrev zmv:List UInt8:=[102,105,114,115,116]
abbrev zmu:List UInt8:=[102,105,114,115,116,32,60,45,32]
theorem zmL (rest:List UInt8):TL 0 (zmu++rest)=⟨.name,0,5,zmv,[]⟩::⟨.arrow,6,2,[],[]⟩::TL 9 rest:=by
 have h1:=zk3 zmv ([32,60,45,32]++rest) 0 ⟨.name,0,5,zmv,[]⟩ (by simp[blk,Y9]) (by simp[zM,Qu,Ql,ZQ]) rfl rfl
 have h2:=zka 32 ([60,45,32]++rest) 5 (by decide)
 have h3:=zk3 [60,45] (32::rest) 6 ⟨.arrow,0,2,[],[]⟩ (by simp[blk,Y9]) (by simp[zM,Qu]) rfl rfl
 have h4:=zka 32 rest 8 (by decide)
 simp only[List.cons_append,List.nil_append,List.length_cons,List.length_nil] at h1 h2 h3 h4 ⊢
 rw[h1,h2,h3,h4]
theorem zmM {nm:List UInt8} (hn:nm ∈ K2) (pos:Nat) (rest:List UInt8):TL pos (nm++(32::rest))=⟨.name,pos,nm.length,nm,[]⟩::TL (pos+nm.length+1) rest:=by
 have h2:=zka 32 rest (pos+nm.length) (by decide)
 simp only[List.mem_cons,List.not_mem_nil,or_false] at hn
 rcases hn with rfl | rfl | rfl
 ·rw[zk3 nmS (32::rest) pos ⟨.name,0,1,nmS,[]⟩ (by simp[blk,Y9]) (by simp[zM,Qu,Ql,ZQ]) rfl rfl,h2];rfl
 ·rw[zk3 zbT (32::rest) pos ⟨.name,0,3,zbT,[]⟩ (by simp[blk,Y9]) (by simp[zM,Qu,Ql,ZQ]) rfl rfl,h2];rfl
 ·rw[zk3 zbU (32::rest) pos ⟨.name,0,4,zbU,[]⟩ (by simp[blk,Y9]) (by simp[zM,Qu,Ql,ZQ]) rfl rfl,h2];rfl
abbrev zmr:List (List UInt8):=[zmv,nmS,zbT,zbU]
abbrev g4 (nm:List UInt8) (c:Z5):List ze:=[⟨zmv,[[.mk 0 (.name nm) 0]]⟩,⟨nmS,c⟩,zk6,zjz]
theorem zmR {x:List UInt8} {dep:Nat} {c:Z5} {nm:List UInt8} (hn:nm ∈ K2) (hx:Px x dep c) (hd':dep≤6):ZU 0 (Qn (zmu++(nm++(32::(hdB++(x++zjP)))))) (.ok (g4 nm c)):=by
 rw[YZ,zmL,zmM hn]
 have hr:=zmS (9+nm.length+1) hx hd'
 have hh:=zmA (9+nm.length+1) (x++zjP)
 refine .more (.ok rfl rfl (by decide) (.last (.cons ?_ (zk1 rfl ?_ ?_) (.nil ?_)) ?_)) ?_ hr
 all_goals rw[hh]
 all_goals first | rfl | simp[hd]
theorem lt4 {i:Nat} (h:i<4):i=0∨i=1∨i=2∨i=3:=by omega
theorem Wm4 (M:Mat) (h2:∀ j,M 2 j=false) (h3:∀ j,M 3 j=false) (h0:∀ i,M i 0=false) (h1:M 1 1=false) (i:Nat) (hi:i<4):Wm M 4 i i=false:=by
 rcases lt4 hi with rfl | rfl | rfl | rfl<;>simp[Wm,h1,h2,h0,h3]
theorem zmE {nm:List UInt8} {c:Z5} {E:List Bool} (hE:QQ zmr (g4 nm c) E):Eb zmr E zbT=false∧Eb zmr E zbU=false:=by
 have hc:QP zmr (g4 nm c) [true,true,false,false]:=by
  intro i hi
  rcases lt4 hi with rfl | rfl | rfl | rfl
  ·intro _;rfl
  ·intro _;rfl
  ·intro h;simp[Zl,ZH,Zu,Ze] at h
  ·intro h;simp[Zl,ZH,Zu,Ze] at h
 constructor
 ·have:=hE _ hc 2
  show E.getD 2 false=false
  cases h:E.getD 2 false with
  | false=>rfl
  | true=>exact absurd (this h) (by simp)
 ·have:=hE _ hc 3
  show E.getD 3 false=false
  cases h:E.getD 3 false with
  | false=>rfl
  | true=>exact absurd (this h) (by simp)
theorem zmy (j:Nat):(List.replicate zmr.length false).getD j false=false:=
 match j with
 | 0=>rfl
 | 1=>rfl
 | 2=>rfl
 | 3=>rfl
 | _+4=>rfl
theorem zn0 {c:Z5} (h:zx (zv zkf) c=false):zx (zv zmr) c=false:=zkh (fun t e=>by
 cases t with
 | mk a p b=>
  cases p<;>simp[zv,Term.piece] at e ⊢
  exact fun _ _=>e) c h
theorem zmV {nm:List UInt8} (hnm:nm ∈ K2) {c:Z5} {e:Bool} (ht:Gt c e) (x:Nat × Nat):¬ Qh (g4 nm c) (.error x):=by
 have hn:zg (g4 nm c)=zmr:=rfl
 have hm:nm=nmS∨nm=zbT∨nm=zbU:=by simpa using hnm
 intro h
 cases h with
 | twice h=>
  obtain⟨h1,h2,_⟩:=h
  rcases lt4 h1 with rfl | rfl | rfl | rfl<;>exact absurd h2 (by rw[hn];decide)
 | unknown _ h=>
  obtain⟨h1,h2,_⟩:=h
  rw[hn] at h2
  have hu:=zn0 ht.1
  rcases lt4 h1 with rfl | rfl | rfl | rfl
  ·rcases hm with rfl | rfl | rfl<;>simp[zx,Zc,ZG,Zi,zv,Term.piece] at h2
  ·simp only[List.getElem_cons_succ,List.getElem_cons_zero] at h2
   rw[hu] at h2;cases h2
  ·simp[zx,Zc,ZG,Zi,zv,Term.piece] at h2
  ·simp[zx,Zc,ZG,Zi,zv,Term.piece] at h2
 | loop _ _ _ _ hl h=>
  rw[hn] at hl h
  obtain⟨h1,h2,_⟩:=h
  obtain⟨q1,q2⟩:=zmE hl
  obtain⟨_,q3,_⟩:=ht.2 _ q1 q2
  rcases lt4 h1 with rfl | rfl | rfl | rfl
  ·simp[zx,Zc,ZG,Zi,zJ,Term.piece,Term.behind] at h2
  ·simp only[List.getElem_cons_succ,List.getElem_cons_zero] at h2
   rw[q3] at h2;cases h2
  ·simp[zx,Zc,ZG,Zi,zJ,Term.piece,Term.behind] at h2
  ·simp[zx,Zc,ZG,Zi,zJ,Term.piece,Term.behind] at h2
 | left a1 a2 a3 a4 hl a6 h=>
  rename_i E i
  rw[hn] at hl h
  obtain⟨h1,h2,_⟩:=h
  obtain⟨q1,q2⟩:=zmE hl
  obtain⟨_,_,q3⟩:=ht.2 _ q1 q2
  have r2:∀ j,Za zmr E (g4 nm c) 2 j=false:=by
   intro j
   show (ZJ zmr _ (ZC (Eb zmr E) zk6.choice)).getD j false=false
   rw[zkd _ _ _ _ (by simp[ZC,Q2,JR,Zy,Zu,Ze])]
   exact zmy j
  have r3:∀ j,Za zmr E (g4 nm c) 3 j=false:=by
   intro j
   show (ZJ zmr _ (ZC (Eb zmr E) zjz.choice)).getD j false=false
   rw[zkd _ _ _ _ (by simp[ZC,Q2,JR,Zy,Zu,Ze])]
   exact zmy j
  have r11:∀ j,j≤1→Za zmr E (g4 nm c) 1 j=false:=by
   intro j hj
   show (ZJ zmr _ (ZC (Eb zmr E) c)).getD j false=false
   rw[zkd]
   ·exact zmy j
   ·intro b hb
    have hj2:j=0∨j=1:=by omega
    rcases hj2 with rfl | rfl<;>rcases q3 b hb with rfl | rfl<;>decide
  have r00:Za zmr E (g4 nm c) 0 0=false:=by
   show (ZJ zmr _ (ZC (Eb zmr E) [[.mk 0 (.name nm) 0]])).getD 0 false=false
   rw[zkd]
   ·rfl
   ·intro b hb
    simp[ZC,Q2,JR,Zy] at hb
    subst hb
    rcases hm with rfl | rfl | rfl<;>decide
  have r0:∀ i,Za zmr E (g4 nm c) i 0=false:=by
   intro i
   match i with
   | 0=>exact r00
   | 1=>exact r11 0 (by omega)
   | 2=>exact r2 0
   | 3=>exact r3 0
   | n+4=>rfl
  have:=Wm4 _ r2 r3 r0 (r11 1 (by omega)) i h1
  rw[show (g4 nm c).length=4 from rfl] at h2
  rw[this] at h2;cases h2
theorem zmQ {l:List UInt8} {nm:List UInt8} (hnm:nm ∈ K2) {c:Z5} {e:Bool} (hG:ZU 0 (Qn l) (.ok (g4 nm c))) (ht:Gt c e) (hl:l.length≤2000) {res:Except (Nat × Nat) (List ze × List Bool)} (h:Zo l res):∃ E,res = .ok (g4 nm c,E):=by
 obtain⟨⟨g,E⟩,rfl⟩:=h.fine hl hG (zmV hnm ht)
 exact⟨E,by rw[h.gram hG]⟩
def eqX:Ex→Ex→Prop
 | .S s _,x'=>∃ acc,x' = .S s acc
 | x,x'=>x'=x
theorem zmx {r:Out} (h:fin r=none):r=none:=by cases r with
 | none=>rfl
 | some x=>cases h
theorem zmt {r:Out} {e:Nat} (h:fin r=some e):∃ m,r=some (e,m):=by cases r with
 | none=>cases h
 | some x=>cases h;exact⟨x.2,rfl⟩
theorem zmC {r r':Out} (h:fin r'=fin r) (k:Nat) (b:Bool):fin (Ja k b r')=fin (Ja k b r):=by
 have:r'.isSome=r.isSome:=by
  cases r<;>cases r'<;>simp[fin] at h ⊢
 unfold Ja
 rw[this]
theorem zmD {r r':Out} (h:fin r'=fin r) (k:Nat):fin (Kg k r')=fin (Kg k r):=by
 cases r<;>cases r'<;>simp[fin,Kg] at h ⊢
 exact h
theorem Ev.to4 {c:Z5} {nm:List UInt8} {inp:z7} {x:Ex} {k:Nat} {r:Out} (h:Ev (gs c) inp x k r):inX zkf x→∀ x',eqX x x'→∃ r',Ev (g4 nm c) inp x' k r'∧fin r'=fin r:=by
 induction h with
 | cnil=>intro _ x' he;cases he;exact⟨_,.cnil,rfl⟩
 | chit _ ih=>
  intro hi x' he
  cases he
  obtain⟨r',h1,h2⟩:=ih hi.1 _ ⟨.nil,rfl⟩
  obtain⟨m,rfl⟩:=zmt h2
  exact⟨_,.chit h1,h2⟩
 | cmiss _ _ i1 i2=>
  intro hi x' he
  cases he
  obtain⟨r1,h1,h2⟩:=i1 hi.1 _ ⟨.nil,rfl⟩
  obtain rfl:=zmx h2
  obtain⟨r',h3,h4⟩:=i2 hi.2 _ rfl
  exact⟨r',.cmiss h1 h3,h4⟩
 | snil=>intro _ x' he;obtain⟨a,rfl⟩:=he;exact⟨_,.snil,rfl⟩
 | sfail _ ih=>
  intro hi x' he
  obtain⟨a,rfl⟩:=he
  obtain⟨r1,h1,h2⟩:=ih hi.1 _ rfl
  obtain rfl:=zmx h2
  exact⟨_,.sfail h1,rfl⟩
 | sstep _ _ i1 i2=>
  intro hi x' he
  obtain⟨a,rfl⟩:=he
  obtain⟨r1,h1,h2⟩:=i1 hi.1 _ rfl
  obtain⟨m,rfl⟩:=zmt h2
  obtain⟨r2,h3,h4⟩:=i2 hi.2 _ ⟨jn a m,rfl⟩
  exact⟨r2,.sstep h1 h3,h4⟩
 | tplain _ ih=>intro hi x' he;cases he;obtain⟨r',h1,h2⟩:=ih hi _ rfl;exact⟨r',.tplain h1,h2⟩
 | tand _ ih=>intro hi x' he;cases he;obtain⟨r',h1,h2⟩:=ih hi _ rfl;exact⟨_,.tand h1,zmC h2 _ _⟩
 | tnot _ ih=>intro hi x' he;cases he;obtain⟨r',h1,h2⟩:=ih hi _ rfl;exact⟨_,.tnot h1,zmC h2 _ _⟩
 | iplain _ ih=>intro hi x' he;cases he;obtain⟨r',h1,h2⟩:=ih hi _ rfl;exact⟨r',.iplain h1,h2⟩
 | imaybe _ ih=>intro hi x' he;cases he;obtain⟨r',h1,h2⟩:=ih hi _ rfl;exact⟨_,.imaybe h1,zmD h2 _⟩
 | istar _ ih=>intro hi x' he;cases he;obtain⟨r',h1,h2⟩:=ih hi _ rfl;exact⟨_,.istar h1,zmD h2 _⟩
 | iplus _ ih=>intro hi x' he;cases he;obtain⟨r',h1,h2⟩:=ih hi _ rfl;exact⟨r',.iplus h1,h2⟩
 | qno _ ih=>
  intro hi x' he
  cases he
  obtain⟨r1,h1,h2⟩:=ih hi _ rfl
  obtain rfl:=zmx h2
  exact⟨_,.qno h1,rfl⟩
 | qlast _ _ i1 i2=>
  intro hi x' he
  cases he
  obtain⟨r1,h1,h2⟩:=i1 hi _ rfl
  obtain⟨m,rfl⟩:=zmt h2
  obtain⟨r2,h3,h4⟩:=i2 hi _ rfl
  obtain rfl:=zmx h4
  exact⟨_,.qlast h1 h3,h2⟩
 | qmore _ _ i1 i2=>
  intro hi x' he
  cases he
  obtain⟨r1,h1,h2⟩:=i1 hi _ rfl
  obtain⟨m,rfl⟩:=zmt h2
  obtain⟨r2,h3,h4⟩:=i2 hi _ rfl
  obtain⟨m2,rfl⟩:=zmt h4
  exact⟨_,.qmore h1 h3,rfl⟩
 | pname h hc _ ih=>
  intro hi x' he
  cases he
  rename_i b k r _
  have hb:b=zbT∨b=zbU:=by
   simp only[inX,inP,List.mem_cons,List.not_mem_nil,or_false] at hi
   exact hi
  rcases hb with rfl | rfl
  ·obtain⟨r',h1,h2⟩:=ih zma _ rfl
   exact⟨_,Ev.pname (g:=g4 nm c) (b:=zbT) (by show idx0 zmr zbT<4;decide) (by rfl) h1,by rw[zeT,zeT];exact h2⟩
  ·obtain⟨r',h1,h2⟩:=ih zmd _ rfl
   exact⟨_,Ev.pname (g:=g4 nm c) (b:=zbU) (by show idx0 zmr zbU<4;decide) (by rfl) h1,by rw[zeT,zeT];exact h2⟩
 | plit h=>intro _ x' he;cases he;exact⟨_,.plit h,rfl⟩
 | pcls h=>intro _ x' he;cases he;exact⟨_,.pcls h,rfl⟩
 | pany=>intro _ x' he;cases he;exact⟨_,.pany,rfl⟩
 | pgroup _ ih=>intro hi x' he;cases he;obtain⟨r',h1,h2⟩:=ih hi _ rfl;exact⟨r',.pgroup h1,h2⟩
theorem zmG {c:Z5} {inp:z7} {i f t:Nat} {m:Nt} (hi:i=0∨i=1∨i=2) (hc:inC zkf c) (h:Ev (gs c) inp (.C ((gs c)[i]?.getD ⟨[],[]⟩).choice) f (some (t,m))) (hf:f≤inp.length) :
  ∃ r,Ev (g4 (K2.getD i []) c) (inp.drop f) (.C [[.mk 0 (.name (K2.getD i [])) 0]]) 0 r∧fin r=some (t - f):=by
 have hlen:(inp.take f).length=f:=by rw[List.length_take];omega
 have h1:Ev (gs c) (inp.take f++inp.drop f) (.C ((gs c)[i]?.getD ⟨[],[]⟩).choice) f (some (t,m)):=by rw[List.take_append_drop];exact h
 have h2:=h1.shift 0 (by omega) (Nat.zero_le _)
 rw[hlen] at h2
 simp only[shX,shO] at h2
 have hin:inC zkf ((gs c)[i]?.getD ⟨[],[]⟩).choice:=by
  rcases hi with rfl | rfl | rfl
  ·exact hc
  ·exact zma
  ·exact zmd
 obtain⟨r',h3,h4⟩:=Ev.to4 (nm:=K2.getD i []) h2 hin _ rfl
 have h5:∃ r,Ev (g4 (K2.getD i []) c) (inp.drop f) (.P (.name (K2.getD i []))) 0 r∧fin r=fin r':=by
  rcases hi with rfl | rfl | rfl
  ·exact⟨_,Ev.pname (g:=g4 nmS c) (b:=nmS) (by show idx0 zmr nmS<4;decide) (by rfl) h3,zeT _ _ _⟩
  ·exact⟨_,Ev.pname (g:=g4 zbT c) (b:=zbT) (by show idx0 zmr zbT<4;decide) (by rfl) h3,zeT _ _ _⟩
  ·exact⟨_,Ev.pname (g:=g4 zbU c) (b:=zbU) (by show idx0 zmr zbU<4;decide) (by rfl) h3,zeT _ _ _⟩
 obtain⟨r,h6,h7⟩:=h5
 rw[h4] at h7
 obtain⟨m2,rfl⟩:=zmt h7
 exact⟨_,.chit (.sstep (.tplain (.iplain h6)) .snil),rfl⟩
end Go.Proofs.YtiganlkabilblaaGreatDoor
