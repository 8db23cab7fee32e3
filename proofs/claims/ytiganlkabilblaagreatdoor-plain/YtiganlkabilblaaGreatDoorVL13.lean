import Derived.Test.YtiganlkabilblaaGreatDoorVL04
import Derived.Test.YtiganlkabilblaaGreatDoorVL11
import Derived.Test.YtiganlkabilblaaGreatDoorVL07
import Derived.Test.YtiganlkabilblaaGreatDoorVL00
import Derived.Test.YtiganlkabilblaaGreatDoorVL09
set_option linter.all false
set_option maxHeartbeats 64000000
set_option maxRecDepth 100000
namespace Thk
def Zb (t:Tok):RE:=
 match t.kind with
 | .name=>⟨4,[],t.text,0,[]⟩
 | .lit=>⟨1,t.text.map (fun c=>(c,c)),[],0,[]⟩
 | .cls=>⟨2,t.spans,[],0,[]⟩
 | _=>⟨3,[],[],0,[]⟩
def ST.rule (S:ST):ST:=if S.rs=[] then S else { S.closed with rs:=S.rs.dropLast++[((S.rs.getLastD ([],0)).1,S.xs.length+1)] }
def ST.lay (S:ST) (e:RE):ST:=(({ S with sign:=[] }:ST).add e).term S.xs.length S.sign
def ST.signs (S:ST) (c:UInt8):Except Nat ST:=
 if c=47 then (if S.sign=[] then .ok { S.slash with may:=false } else .error 2)
 else if c=38∨c=33 then (if S.sign=[] then .ok { S with sign:=[c],may:=false } else .error 2)
 else if c=63∨c=42∨c=43 then (if S.may=true then .ok (S.behind [c]) else .error 2)
 else if c=40 then (if 6<S.os.length then .error 3 else .ok { S with os:=S.os++[⟨[],[],S.sign⟩],sign:=[],may:=false })
 else if c=41 then (if S.sign=[]∧2≤S.os.length then .ok (S.closed.term (S.xs.length+1) S.top.sign) else .error 2)
 else .ok (S.lay ⟨3,[],[],0,[]⟩)
def ST.begin (S:ST) (b:z7):ST:={ S.rule with rs:=S.rule.rs++[(b,0)],os:=S.rule.os++[⟨[],[],[]⟩],may:=false }
def run:List Tok→ST→Except (Nat × Nat) ST
 | [],_=>.error (0,0)
 | t::rest,S=>
  match t.kind with
  | .bad=>.error (2,t.place)
  | .fin=>if S.rs=[]∨S.sign≠[]∨1<S.os.length then .error (2,t.place) else .ok S.rule
  | .arrow=>.error (2,t.place)
  | .sign c=>if S.rs=[] then .error (2,t.place) else
   match S.signs c with
   | .error e=>.error (e,t.place)
   | .ok S'=>run rest S'
  | .lit=>if S.rs=[] then .error (2,t.place) else run rest (S.lay (Zb t))
  | .cls=>if S.rs=[] then .error (2,t.place) else run rest (S.lay (Zb t))
  | .name=>
   match rest with
   | []=>.error (0,0)
   | m::rest'=>
    if m.kind.isArrow then
     (if S.sign≠[]∨1<S.os.length then .error (2,m.place) else if 20≤S.rs.length then .error (4,m.place) else run rest' (S.begin t.text))
    else if S.rs=[] then .error (2,m.place) else run (m::rest') (S.lay (Zb t))
theorem VQ {t:Tok} {rest:List Tok} {S:ST} (h:t.kind = .bad):run (t::rest) S = .error (2,t.place):=by
 unfold run;simp only[h]
theorem VR {t:Tok} {rest:List Tok} {S:ST} (h:t.kind = .fin):run (t::rest) S=if S.rs=[]∨S.sign≠[]∨1<S.os.length then .error (2,t.place) else .ok S.rule:=by
 unfold run;simp only[h]
theorem KV {t:Tok} {rest:List Tok} {S:ST} (h:t.kind = .arrow):run (t::rest) S = .error (2,t.place):=by
 unfold run;simp only[h]
theorem JW {t:Tok} {rest:List Tok} {S:ST} {c:UInt8} (h:t.kind = .sign c) (hr:S.rs≠[]):run (t::rest) S=match S.signs c with
   | .error e=>.error (e,t.place)
   | .ok S'=>run rest S':=by
 rw[run.eq_def];simp only[h,if_neg hr]
theorem zcw {t:Tok} {rest:List Tok} {S:ST} (h:t.kind = .lit) (hr:S.rs≠[]):run (t::rest) S=run rest (S.lay (Zb t)):=by
 rw[run.eq_def];simp only[h,if_neg hr]
theorem zcv {t:Tok} {rest:List Tok} {S:ST} (h:t.kind = .cls) (hr:S.rs≠[]):run (t::rest) S=run rest (S.lay (Zb t)):=by
 rw[run.eq_def];simp only[h,if_neg hr]
theorem zcx {t m:Tok} {rest:List Tok} {S:ST} (h:t.kind = .name) (hr:S.rs≠[]) (ha:m.kind.isArrow=false):run (t::m::rest) S=run (m::rest) (S.lay (Zb t)):=by
 rw[run];simp only[h,ha,if_neg hr,Bool.false_eq_true,if_false]
theorem UZ {t m:Tok} {rest:List Tok} {S:ST} (h:t.kind = .name) (ha:m.kind.isArrow=true):run (t::m::rest) S=if S.sign≠[]∨1<S.os.length then .error (2,m.place) else if 20≤S.rs.length then .error (4,m.place) else run rest (S.begin t.text):=by
 rw[run];simp only[h,ha,if_true]
def Wf:List Tok→Prop
 | []=>False
 | t::r=>(∀ c,t.kind = .sign c→Qf c=true)∧if t.kind.last then r=[] else Wf r
theorem Wf.form {ts:List Tok} (h:Wf ts):∃ t r,ts=t::r∧(∀ c,t.kind = .sign c→Qf c=true)∧(t.kind.last=false→Wf r):=by
 cases ts with
 | nil=>exact h.elim
 | cons t r=>exact⟨t,r,rfl,h.1,fun hl=>by have:=h.2;rw[if_neg (by simp[hl])] at this;exact this⟩
def Kz (ts:List Tok):Prop:=(hd ts).kind = .sign 63∨(hd ts).kind = .sign 42∨(hd ts).kind = .sign 43
mutual
def zw (xs:List RE) (k:Nat):zC→Prop
  | .name b=>xs[k]? = some ⟨4,[],b,0,[]⟩
  | .lit b=>xs[k]? = some ⟨1,b.map (fun c=>(c,c)),[],0,[]⟩
  | .cls l=>xs[k]? = some ⟨2,l,[],0,[]⟩
  | .any=>xs[k]? = some ⟨3,[],[],0,[]⟩
  | .group c=>∃ qs,xs[k]? = some ⟨6,[],[],0,qs⟩∧zZ xs qs c
def Zw (xs:List RE) (k:Nat):Term→Prop
  | .mk a p b=>∃ i j,(if a=0 then k=i else xs[k]? = some (zy (zE [a]) i))∧(if b=0 then i=j else xs[i]? = some (zy (zE [b]) j))∧zw xs j p∧(b=0∨b=63∨b=42∨b=43)∧(a=0∨a=38∨a=33)
def Z7 (xs:List RE):List Nat→List Term→Prop
  | ks,[]=>ks=[]
  | ks,t::s=>∃ k ks',ks=k::ks'∧Zw xs k t∧Z7 xs ks' s
def zZ (xs:List RE):List Nat→List (List Term)→Prop
  | qs,[]=>qs=[]
  | qs,s::c=>∃ q qs' ks,qs=q::qs'∧xs[q]? = some ⟨5,[],[],0,ks⟩∧Z7 xs ks s∧zZ xs qs' c
 end
theorem YF {xs ys:List RE} (h:xs <+: ys) {k:Nat} {e:RE} (hk:xs[k]? = some e):ys[k]? = some e:=by
 obtain⟨zs,rfl⟩:=h
 rw[List.getElem?_append_left (List.getElem?_eq_some_iff.1 hk).1];exact hk
mutual
theorem zw.mono {xs ys:List RE} (h:xs <+: ys) {k:Nat}:∀ p:zC,zw xs k p→zw ys k p
  | .name b=>by simp only[zw];exact YF h
  | .lit b=>by simp only[zw];exact YF h
  | .cls l=>by simp only[zw];exact YF h
  | .any=>by simp only[zw];exact YF h
  | .group c=>by
    simp only[zw]
    rintro⟨qs,h1,h2⟩
    exact⟨qs,YF h h1,zZ.mono h c h2⟩
theorem Zw.mono {xs ys:List RE} (h:xs <+: ys) {k:Nat}:∀ t:Term,Zw xs k t→Zw ys k t
  | .mk a p b=>by
    simp only[Zw]
    rintro⟨i,j,h1,h2,h3,h4⟩
    refine⟨i,j,?_,?_,zw.mono h p h3,h4⟩
    · split
      · rename_i ha;rw[if_pos ha] at h1;exact h1
      · rename_i ha;rw[if_neg ha] at h1;exact YF h h1
    · split
      · rename_i ha;rw[if_pos ha] at h2;exact h2
      · rename_i ha;rw[if_neg ha] at h2;exact YF h h2
theorem Z7.mono {xs ys:List RE} (h:xs <+: ys):∀ {ks:List Nat} (s:List Term),Z7 xs ks s→Z7 ys ks s
  | ks,[]=>by simp only[Z7];exact id
  | ks,t::s=>by
    simp only[Z7]
    rintro⟨k,ks',h1,h2,h3⟩
    exact⟨k,ks',h1,Zw.mono h t h2,Z7.mono h s h3⟩
theorem zZ.mono {xs ys:List RE} (h:xs <+: ys):∀ {qs:List Nat} (c:List (List Term)),zZ xs qs c→zZ ys qs c
  | qs,[]=>by simp only[zZ];exact id
  | qs,s::c=>by
    simp only[zZ]
    rintro⟨q,qs',ks,h1,h2,h3,h4⟩
    exact⟨q,qs',ks,h1,YF h h2,Z7.mono h s h3,zZ.mono h c h4⟩
 end
theorem VX (T:ST) (j:Nat) (sg:z7):(T.term j sg).xs=if sg=[] then T.xs else T.xs++[zy (zE sg) j]:=by
 unfold ST.term;split<;>simp[ST.push,ST.setTop,ST.add]
theorem Kk (T:ST) (j:Nat) (sg:z7) {pre:List OP} {o:OP} (h:T.os=pre++[o]):(T.term j sg).os=pre++[{ o with terms:=o.terms++[if sg=[] then j else T.xs.length] }]:=by
 unfold ST.term;split
 ·rename_i hs;simp[ST.push,ST.setTop,ST.top,h,List.getLastD_concat,hs]
 ·rename_i hs;simp[ST.push,ST.setTop,ST.top,ST.add,h,List.getLastD_concat]
theorem VW (T:ST) (j:Nat) (sg:z7):(T.term j sg).rs=T.rs:=by
 unfold ST.term;split<;>simp[ST.push,ST.setTop,ST.add]
theorem zaz (T:ST) (j:Nat) (sg:z7):(T.term j sg).sign=T.sign:=by
 unfold ST.term;split<;>simp[ST.push,ST.setTop,ST.add]
theorem zd6 (T:ST) (j:Nat) (sg:z7):(T.term j sg).may=true:=by
 unfold ST.term;split<;>simp[ST.push]
structure Laid (S:ST) (pre:List OP) (o:OP) (pc:zC) (S':ST) (xs1:List RE) (j:Nat):Prop where
 ext:S.xs <+: xs1
 den:zw xs1 j pc
 xs:S'.xs=if S.sign=[] then xs1 else xs1++[zy (zE S.sign) j]
 os:S'.os=pre++[{ o with terms:=o.terms++[if S.sign=[] then j else xs1.length] }]
 rs:S'.rs=S.rs
 sign:S'.sign=[]
 may:S'.may=true
structure U6 (d:Nat) (ts:List Tok) (S:ST) (pre:List OP) (o:OP):Prop where
 wf:Wf ts
 os:S.os=pre++[o]
 len:pre.length=d
 rs:S.rs≠[]
 deep:d≤6
 sg:S.sign=[]∨((S.sign=[38]∨S.sign=[33])∧S.may=false)
 here:S.sign=[]→zX d ts=true∧(hd ts).kind≠.sign 38∧(hd ts).kind≠.sign 33
def MPc (d:Nat) (ts:List Tok) (r:Res zC):Prop:=∀ S pre o,U6 d ts S pre o →
 match r with
 | .err e p=>run ts S = .error (e,p)
 | .ok pc rest=>Wf rest∧∃ S' xs1 j,run ts S=run rest S'∧Laid S pre o pc S' xs1 j
structure QG (d:Nat) (ts:List Tok) (S:ST) (pre:List OP) (o:OP):Prop where
 wf:Wf ts
 os:S.os=pre++[o]
 len:pre.length=d
 rs:S.rs≠[]
 deep:d≤6
 sign:S.sign=[]
 may:S.may=true→¬ Kz ts
def MTm (d:Nat) (ts:List Tok) (r:Res Term):Prop:=∀ S pre o,QG d ts S pre o→zX d ts=true →
 match r with
 | .err e p=>run ts S = .error (e,p)
 | .ok t rest=>∃ S' k,run ts S=run rest S'∧S'.rs=S.rs∧QG d rest S' pre { o with terms:=o.terms++[k] }∧S.xs <+: S'.xs∧Zw S'.xs k t
def MSq (d:Nat) (ts:List Tok) (r:Res Seq):Prop:=∀ S pre o,QG d ts S pre o →
 match r with
 | .err e p=>run ts S = .error (e,p)
 | .ok s rest=>zX d rest=false∧∃ S' ks,run ts S=run rest S'∧S'.rs=S.rs∧QG d rest S' pre { o with terms:=o.terms++ks }∧S.xs <+: S'.xs∧Z7 S'.xs ks s
def MCh (d:Nat) (ts:List Tok) (r:Res Z5):Prop:=∀ S pre o,QG d ts S pre o→o.terms=[] →
 match r with
 | .err e p=>run ts S = .error (e,p)
 | .ok c rest=>zX d rest=false∧(hd rest).kind≠.sign 47∧∃ S' qs ks c0 s,run ts S=run rest S'∧S'.rs=S.rs∧QG d rest S' pre ⟨o.seqs++qs,ks,o.sign⟩∧S.xs <+: S'.xs∧c=c0++[s]∧zZ S'.xs qs c0∧Z7 S'.xs ks s
theorem UL {d:Nat} {ts:List Tok} {S:ST} {pre:List OP} {o:OP} (h:U6 d ts S pre o) {e:RE} {pc:zC} (hd:zw (S.xs++[e]) S.xs.length pc):Laid S pre o pc (S.lay e) (S.xs++[e]) S.xs.length:=by
 have e1:(({ S with sign:=[] }:ST).add e).xs=S.xs++[e]:=rfl
 have e2:(({ S with sign:=[] }:ST).add e).os=pre++[o]:=h.os
 refine⟨⟨[e],rfl⟩,hd,?_,?_,?_,?_,?_⟩
 ·unfold ST.lay;rw[VX,e1]
 ·unfold ST.lay;rw[Kk _ _ _ e2,e1]
 ·unfold ST.lay;rw[VW];rfl
 ·unfold ST.lay;rw[zaz];rfl
 ·unfold ST.lay;rw[zd6]
theorem YA {xs:List RE} {e:RE}:(xs++[e])[xs.length]? = some e:=by simp
theorem zgd {d:Nat} {ts:List Tok} {p:zC} (hp:zU (hd ts)=some p):MPc d ts (.ok p ts.tail):=by
 intro S pre o h
 obtain⟨t,r,rfl,hok,hr⟩:=h.wf.form
 simp only[hd,List.headD_cons] at hp
 simp only[List.tail_cons]
 have hos:S.os.length=d+1:=by rw[h.os];simp[h.len]
 have hrs:=h.rs
 cases hk:t.kind with
 | name=>
  simp only[zU,hk,Option.some.injEq] at hp
  subst hp
  have hw:=hr (by rw[hk];rfl)
  have hE:zw (S.xs++[Zb t]) S.xs.length (.name t.text):=by
   simp only[zw,YA,Zb,hk]
  refine⟨hw,S.lay (Zb t),S.xs++[Zb t],S.xs.length,?_,UL h hE⟩
  obtain⟨m,r',rfl,_⟩:=hw.form
  by_cases ha:m.kind.isArrow=true
  ·have hka:m.kind = .arrow:=by
    cases hm:m.kind<;>simp[hm,TK.isArrow] at ha ⊢
   have h2:S.sign≠[]∨1<S.os.length:=by
    by_cases hs:S.sign=[]
    ·right
     have hb:=(h.here hs).1
     simp only[zX,hd,List.headD_cons,hk,List.tail_cons,ha] at hb
     have:d≠0:=by
      intro e;subst e;simp at hb
     omega
    ·exact .inl hs
   rw[UZ hk ha,if_pos h2,KV hka]
  ·exact zcx hk hrs (by simpa using ha)
 | lit=>
  simp only[zU,hk,Option.some.injEq] at hp
  subst hp
  have hE:zw (S.xs++[Zb t]) S.xs.length (.lit t.text):=by simp only[zw,YA,Zb,hk]
  refine⟨hr (by rw[hk];rfl),S.lay (Zb t),S.xs++[Zb t],S.xs.length,zcw hk hrs,UL h hE⟩
 | cls=>
  simp only[zU,hk,Option.some.injEq] at hp
  subst hp
  have hE:zw (S.xs++[Zb t]) S.xs.length (.cls t.spans):=by simp only[zw,YA,Zb,hk]
  refine⟨hr (by rw[hk];rfl),S.lay (Zb t),S.xs++[Zb t],S.xs.length,zcv hk hrs,UL h hE⟩
 | sign c=>
  simp only[zU,hk] at hp
  split at hp
  ·rename_i hc
   subst hc
   simp only[Option.some.injEq] at hp
   subst hp
   have hE:zw (S.xs++[⟨3,[],[],0,[]⟩]) S.xs.length .any:=by simp only[zw,YA]
   refine⟨hr (by rw[hk];rfl),S.lay ⟨3,[],[],0,[]⟩,S.xs++[⟨3,[],[],0,[]⟩],S.xs.length,?_,UL h hE⟩
   rw[JW hk hrs];simp[ST.signs]
  ·cases hp
 | fin=>simp[zU,hk] at hp
 | bad=>simp[zU,hk] at hp
 | arrow=>simp[zU,hk] at hp
theorem VS {c:UInt8} (h:Qf c=true):c=47∨c=38∨c=33∨c=63∨c=42∨c=43∨c=40∨c=41∨c=46:=by
 simpa [Qf] using h
theorem zg5 {d:Nat} {ts:List Tok} (hn:zU (hd ts)=none) (hk4:(hd ts).kind≠.sign 40):MPc d ts (.err 2 (hd ts).place):=by
 intro S pre o h
 obtain⟨t,r,rfl,hok,hr⟩:=h.wf.form
 simp only[hd,List.headD_cons] at hn hk4 ⊢
 have hrs:=h.rs
 have hs:S.sign≠[]∧S.may=false:=by
  rcases h.sg with hs | ⟨hs,hm⟩
  ·exfalso
   obtain⟨hb,h38,h33⟩:=h.here hs
   simp only[hd,List.headD_cons] at h38 h33
   simp only[zX,hd,List.headD_cons] at hb
   cases hk:t.kind with
   | sign c=>
    simp only[hk] at hb hk4 h38 h33
    simp only[zU,hk] at hn
    have h1:c≠46:=by intro e;subst e;simp at hn
    have h2:c≠40:=by intro e;subst e;exact hk4 rfl
    have h3:c≠38:=by intro e;subst e;exact h38 rfl
    have h4:c≠33:=by intro e;subst e;exact h33 rfl
    simp[h1,h2,h3,h4] at hb
   | name=>simp[zU,hk] at hn
   | lit=>simp[zU,hk] at hn
   | cls=>simp[zU,hk] at hn
   | fin=>simp[hk] at hb
   | bad=>simp[hk] at hb
   | arrow=>simp[hk] at hb
  ·exact⟨by rcases hs with hs | hs<;>rw[hs]<;>simp,hm⟩
 obtain⟨hs,hm⟩:=hs
 cases hk:t.kind with
 | sign c=>
  simp only[zU,hk] at hn
  have h1:c≠46:=by intro e;subst e;simp at hn
  have h2:c≠40:=by intro e;subst e;exact hk4 hk
  rw[JW hk hrs]
  rcases VS (hok c hk) with rfl | rfl | rfl | rfl | rfl | rfl | rfl | rfl | rfl<;>simp[ST.signs,hs,hm] at h1 h2 ⊢
 | name=>simp[zU,hk] at hn
 | lit=>simp[zU,hk] at hn
 | cls=>simp[zU,hk] at hn
 | fin=>rw[VR hk];simp[hs]
 | bad=>rw[VQ hk]
 | arrow=>rw[KV hk]
theorem zga {ts:List Tok} (hk:(hd ts).kind = .sign 40):MPc 6 ts (.err 3 (hd ts).place):=by
 intro S pre o h
 obtain⟨t,r,rfl,hok,hr⟩:=h.wf.form
 simp only[hd,List.headD_cons] at hk ⊢
 have hos:S.os.length=7:=by rw[h.os];simp[h.len]
 rw[JW hk h.rs];simp[ST.signs,hos]
theorem zeI {d:Nat} {ts:List Tok} {S:ST} {pre:List OP} {o:OP} (h:QG d ts S pre o) (hd0:d≠0) (hb:zX d ts=false) (h47:(hd ts).kind≠.sign 47) (h41:(hd ts).kind≠.sign 41):run ts S = .error (2,(hd ts).place):=by
 obtain⟨t,r,rfl,hok,hr⟩:=h.wf.form
 have hmay:=h.may
 simp only[hd,List.headD_cons,Kz] at hb h47 h41 hmay ⊢
 have hrs:=h.rs
 have hos : 1<S.os.length:=by rw[h.os];simp[h.len];omega
 simp only[zX,hd,List.headD_cons] at hb
 cases hk:t.kind with
 | sign c=>
  simp only[hk] at hb h47 h41 hmay
  rw[JW hk hrs]
  rcases VS (hok c hk) with rfl | rfl | rfl | rfl | rfl | rfl | rfl | rfl | rfl<;>simp[ST.signs] at hb h47 h41 hmay ⊢<;>simp[hmay]
 | name=>simp[hk,hd0] at hb
 | lit=>simp[hk] at hb
 | cls=>simp[hk] at hb
 | fin=>rw[VR hk];simp[hos]
 | bad=>rw[VQ hk]
 | arrow=>rw[KV hk]
theorem za1 {d:Nat} {ts:List Tok} {S:ST} {pre:List OP} {o:OP} (h:U6 d ts S pre o) (hk:(hd ts).kind = .sign 40) (hd6:d≠6) :
  run ts S=run ts.tail { S with os:=S.os++[⟨[],[],S.sign⟩],sign:=[],may:=false }∧QG (d+1) ts.tail { S with os:=S.os++[⟨[],[],S.sign⟩],sign:=[],may:=false } (pre++[o]) ⟨[],[],S.sign⟩:=by
 obtain⟨t,r,rfl,hok,hr⟩:=h.wf.form
 simp only[hd,List.headD_cons] at hk
 have hos:S.os.length=d+1:=by rw[h.os];simp[h.len]
 have hdp:=h.deep
 refine⟨?_,⟨hr (by rw[hk];rfl),by simp[h.os],by simp[h.len],h.rs,by omega,rfl,by simp⟩⟩
 have:¬ 6<S.os.length:=by omega
 simp only[List.tail_cons]
 rw[JW hk h.rs];simp[ST.signs,this]
theorem VT {S:ST} {pre:List OP} {o:OP} (h:S.os=pre++[o]):S.slash.os=pre++[⟨o.seqs++[S.xs.length],[],o.sign⟩]∧S.slash.xs=S.xs++[⟨5,[],[],0,o.terms⟩]∧S.slash.rs=S.rs∧S.slash.sign=S.sign:=by
 simp[ST.slash,ST.setTop,ST.add,ST.top,h,List.getLastD_concat]
theorem KG {S:ST} {pre:List OP} {o:OP} (h:S.os=pre++[o]):S.closed.os=pre∧S.closed.xs=S.xs++[⟨5,[],[],0,o.terms⟩]++[⟨6,[],[],0,o.seqs++[S.xs.length]⟩]∧S.closed.rs=S.rs∧S.closed.sign=S.sign:=by
 obtain⟨h1,h2,h3,h4⟩:=VT h
 simp[ST.closed,ST.add,h2,h3,h4,ST.top,h,List.getLastD_concat]
theorem zZ.snoc {xs:List RE}:∀ {qs:List Nat} (c:List (List Term)) {q:Nat} {ks:List Nat} {s:List Term},zZ xs qs c→xs[q]? = some ⟨5,[],[],0,ks⟩→Z7 xs ks s→zZ xs (qs++[q]) (c++[s])
 | qs,[],q,ks,s=>by
  intro h h1 h2
  simp only[zZ] at h
  subst h
  simp only[List.nil_append,zZ]
  exact⟨q,[],ks,rfl,h1,h2,rfl⟩
 | qs,s0::c,q,ks,s=>by
  intro h h1 h2
  simp only[zZ] at h
  obtain⟨q0,qs',ks',rfl,g1,g2,g3⟩:=h
  simp only[List.cons_append,zZ]
  exact⟨q0,qs'++[q],ks',rfl,g1,g2,zZ.snoc c g3 h1 h2⟩
theorem zgb {d:Nat} {ts:List Tok} {c:Z5} {rest:List Tok} (hk:(hd ts).kind = .sign 40) (hd6:d≠6) (hcl:(hd rest).kind = .sign 41) (ih:MCh (d+1) ts.tail (.ok c rest)):MPc d ts (.ok (.group c) rest.tail):=by
 intro S pre o h
 obtain⟨h1,h2⟩:=za1 h hk hd6
 obtain⟨_,_,S',qs,ks,c0,s,e1,er,e2,e3,rfl,e5,e6⟩:=ih _ _ _ h2 rfl
 obtain⟨t,r,rfl,hok,hr⟩:=e2.wf.form
 simp only[hd,List.headD_cons] at hcl
 simp only[List.nil_append] at e2
 obtain⟨f1,f2,f3,f4⟩:=KG e2.os
 have hos : 2≤S'.os.length:=by rw[e2.os];simp
 have htop:S'.top.sign=S.sign:=by simp[ST.top,e2.os,List.getLastD_concat]
 have hxs1:S'.xs <+: S'.closed.xs:=by rw[f2];exact⟨[⟨5,[],[],0,ks⟩,⟨6,[],[],0,qs++[S'.xs.length]⟩],by simp⟩
 refine⟨hr (by rw[hcl];rfl),S'.closed.term (S'.xs.length+1) S.sign,S'.closed.xs,S'.xs.length+1,?_,?_⟩
 ·rw[h1,e1]
  rw[JW hcl e2.rs];simp[ST.signs,e2.sign,hos,htop]
 ·refine⟨e3.trans hxs1,?_,VX _ _ _,Kk _ _ _ f1,?_,?_,zd6 _ _ _⟩
  ·simp only[zw]
   refine⟨qs++[S'.xs.length],by rw[f2];simp,zZ.snoc c0 (zZ.mono hxs1 c0 e5) (ks:=ks) (by rw[f2];simp) (Z7.mono hxs1 s e6)⟩
  ·rw[VW,f3,er]
  ·rw[zaz,f4];exact e2.sign
theorem zgk {d:Nat} {ts:List Tok} {c:Z5} {rest:List Tok} (hk:(hd ts).kind = .sign 40) (hd6:d≠6) (hcl:(hd rest).kind≠.sign 41) (ih:MCh (d+1) ts.tail (.ok c rest)):MPc d ts (.err 2 (hd rest).place):=by
 intro S pre o h
 obtain⟨h1,h2⟩:=za1 h hk hd6
 obtain⟨hb,h47,S',qs,ks,c0,s,e1,er,e2,_⟩:=ih _ _ _ h2 rfl
 show run ts S=_
 rw[h1,e1]
 exact zeI e2 (by omega) hb h47 hcl
theorem zgc {d:Nat} {ts:List Tok} {e p:Nat} (hk:(hd ts).kind = .sign 40) (hd6:d≠6) (ih:MCh (d+1) ts.tail (.err e p)):MPc d ts (.err e p):=by
 intro S pre o h
 obtain⟨h1,h2⟩:=za1 h hk hd6
 show run ts S=_
 rw[h1]
 exact ih _ _ _ h2 rfl
theorem zw.kind {xs:List RE} {j:Nat} {p:zC} (h:zw xs j p):∃ x,xs[j]? = some x∧¬ (x.kind=10∨x.kind=11):=by
 cases p with
 | name b=>simp only[zw] at h;exact⟨_,h,by simp⟩
 | lit b=>simp only[zw] at h;exact⟨_,h,by simp⟩
 | cls l=>simp only[zw] at h;exact⟨_,h,by simp⟩
 | any=>simp only[zw] at h;exact⟨_,h,by simp⟩
 | group c=>simp only[zw] at h;obtain⟨qs,h,_⟩:=h;exact⟨_,h,by simp⟩
theorem zdW {t:Tok} {r:List Tok} {b:UInt8} (hk:t.kind = .sign b) (hb:b=63∨b=42∨b=43):Zg (t::r)=(b,r):=by
 unfold Zg;simp only[hd,List.headD_cons,hk]
 rw[if_pos hb];rfl
theorem zdV {ts:List Tok} (h:¬ Kz ts):Zg ts=(0,ts):=by
 unfold Zg
 split
 ·rename_i c hc
  rw[if_neg]
  rintro (rfl | rfl | rfl)
  ·exact h (.inl hc)
  ·exact h (.inr (.inl hc))
  ·exact h (.inr (.inr hc))
 ·rfl
theorem zdY {d:Nat} {S:ST} {pre:List OP} {o:OP} {pc:zC} {S':ST} {xs1:List RE} {j:Nat} {rest:List Tok} {a:UInt8} (h:Laid S pre o pc S' xs1 j) (hw:Wf rest) (hlen:pre.length=d) (hrs:S.rs≠[]) (hdp:d≤6)
  (ha:(a=0∧S.sign=[])∨(S.sign=[a]∧(a=38∨a=33))) :
  ∃ S2 k,run rest S'=run (Zg rest).2 S2∧S2.rs=S.rs∧QG d (Zg rest).2 S2 pre { o with terms:=o.terms++[k] }∧S.xs <+: S2.xs∧Zw S2.xs k (.mk a pc (Zg rest).1):=by
 obtain⟨x,hx1,hx2⟩:=h.den.kind
 have hjl:j<xs1.length:=(List.getElem?_eq_some_iff.1 hx1).1
 by_cases hbt:Kz rest
 ·obtain⟨t,r,rfl,hok,hr⟩:=hw.form
  obtain⟨b,hk,hb⟩:∃ b,t.kind = .sign b∧(b=63∨b=42∨b=43):=by
   simp only[Kz,hd,List.headD_cons] at hbt
   rcases hbt with hk | hk | hk
   ·exact⟨63,hk,.inl rfl⟩
   ·exact⟨42,hk,.inr (.inl rfl)⟩
   ·exact⟨43,hk,.inr (.inr rfl)⟩
  have hb0:b≠0:=by rcases hb with rfl | rfl | rfl<;>decide
  rw[zdW hk hb]
  have hrun:run (t::r) S'=run r (S'.behind [b]):=by
   rw[JW hk (by rw[h.rs];exact hrs)]
   rcases hb with rfl | rfl | rfl<;>simp[ST.signs,h.may]
  have htop:S'.top = { o with terms:=o.terms++[if S.sign=[] then j else xs1.length] }:=by simp[ST.top,h.os,List.getLastD_concat]
  have hlast:S'.top.terms.getLastD 0=if S.sign=[] then j else xs1.length:=by rw[htop];simp[List.getLastD_concat]
  rcases ha with ⟨rfl,hs⟩ | ⟨hs,ha⟩
  ·-- no sign ahead
   rw[if_pos hs] at hlast
   have hxs:S'.xs=xs1:=by rw[h.xs,if_pos hs]
   have hgd:S'.xs.getD j RE.z=x:=by rw[hxs,List.getD_eq_getElem?_getD,hx1];rfl
   have hbe:S'.behind [b] = { (S'.add (zy (zE [b]) j)).setTop { S'.top with terms:=S'.top.terms.dropLast++[S'.xs.length] } with may:=false }:=by
    unfold ST.behind;simp only[hlast,hgd,if_neg hx2]
   refine⟨S'.behind [b],xs1.length,hrun,?_,⟨hr (by rw[hk];rfl),?_,hlen,?_,hdp,?_,?_⟩,?_,?_⟩
   ·rw[hbe];exact h.rs
   ·rw[hbe];simp[ST.setTop,ST.add,htop,h.os,hs,hxs]
   ·rw[hbe];simp[ST.setTop,ST.add,h.rs,hrs]
   ·rw[hbe];simp[ST.setTop,ST.add,h.sign]
   ·rw[hbe];simp
   ·rw[hbe];simp only[ST.setTop,ST.add,hxs];exact h.ext.trans ⟨[zy (zE [b]) j],rfl⟩
   ·rw[hbe];simp only[ST.setTop,ST.add,hxs,Zw]
    refine⟨xs1.length,j,by simp,?_,zw.mono ⟨[zy (zE [b]) j],rfl⟩ _ h.den,.inr hb,.inl (by trivial)⟩
    rw[if_neg hb0];exact YA
  ·-- a sign ahead
   have hs0:S.sign≠[]:=by rw[hs];simp
   have ha0:a≠0:=by rcases ha with rfl | rfl<;>decide
   rw[if_neg hs0] at hlast
   have hxs:S'.xs=xs1++[zy (zE [a]) j]:=by rw[h.xs,if_neg hs0,hs]
   have hgd:S'.xs.getD xs1.length RE.z=zy (zE [a]) j:=by rw[hxs,List.getD_eq_getElem?_getD,YA];rfl
   have hak:(zy (zE [a]) j).kind=10∨(zy (zE [a]) j).kind=11:=by
    rcases ha with rfl | rfl
    ·left;rfl
    ·right;rfl
   have hbe:S'.behind [b] = { S' with xs:=(S'.xs++[zy (zE [b]) j]).set xs1.length (zy (zE [a]) S'.xs.length),may:=false }:=by
    unfold ST.behind;simp only[hlast,hgd,if_pos hak];rfl
   have hx':(S'.xs++[zy (zE [b]) j]).set xs1.length (zy (zE [a]) S'.xs.length)=xs1++[zy (zE [a]) (xs1.length+1),zy (zE [b]) j]:=by
    rw[hxs];simp
   refine⟨S'.behind [b],xs1.length,hrun,?_,⟨hr (by rw[hk];rfl),?_,hlen,?_,hdp,?_,?_⟩,?_,?_⟩
   ·rw[hbe];exact h.rs
   ·rw[hbe];simp[h.os,hs0]
   ·rw[hbe];simp[h.rs,hrs]
   ·rw[hbe];simp[h.sign]
   ·rw[hbe];simp
   ·rw[hbe];simp only[hx'];exact h.ext.trans ⟨_,rfl⟩
   ·rw[hbe];simp only[hx',Zw]
    refine⟨xs1.length+1,j,?_,?_,zw.mono ⟨_,rfl⟩ _ h.den,.inr hb,.inr ha⟩
    ·rw[if_neg ha0];simp
    ·rw[if_neg hb0];simp
 ·rw[zdV hbt]
  rcases ha with ⟨rfl,hs⟩ | ⟨hs,ha⟩
  ·have hxs:S'.xs=xs1:=by rw[h.xs,if_pos hs]
   refine⟨S',j,rfl,h.rs,⟨hw,by rw[h.os,if_pos hs],hlen,by rw[h.rs];exact hrs,hdp,h.sign,fun _=>hbt⟩,by rw[hxs];exact h.ext,?_⟩
   simp only[Zw]
   exact⟨j,j,by simp,by simp,by rw[hxs];exact h.den,.inl (by trivial),.inl (by trivial)⟩
  ·have hs0:S.sign≠[]:=by rw[hs];simp
   have ha0:a≠0:=by rcases ha with rfl | rfl<;>decide
   have hxs:S'.xs=xs1++[zy (zE [a]) j]:=by rw[h.xs,if_neg hs0,hs]
   refine⟨S',xs1.length,rfl,h.rs,⟨hw,by rw[h.os,if_neg hs0],hlen,by rw[h.rs];exact hrs,hdp,h.sign,fun _=>hbt⟩,by rw[hxs];exact h.ext.trans ⟨_,rfl⟩,?_⟩
   simp only[Zw]
   refine⟨j,j,?_,by simp,by rw[hxs];exact zw.mono ⟨_,rfl⟩ _ h.den,.inl (by trivial),.inr ha⟩
   rw[if_neg ha0,hxs];exact YA
theorem zaX {d:Nat} {ts:List Tok} {S:ST} {pre:List OP} {o:OP} (h:QG d ts S pre o) (hb:zX d ts=true) :
  ∃ S1,run ts S=run (Z9 ts).2 S1∧S1.xs=S.xs∧S1.rs=S.rs∧U6 d (Z9 ts).2 S1 pre o∧(((Z9 ts).1=0∧S1.sign=[])∨(S1.sign=[(Z9 ts).1]∧((Z9 ts).1=38∨(Z9 ts).1=33))):=by
 obtain⟨t,r,rfl,hok,hr⟩:=h.wf.form
 by_cases hc:∃ c,t.kind = .sign c∧(c=38∨c=33)
 ·obtain⟨c,hk,hc⟩:=hc
  have e:Z9 (t::r)=(c,r):=by
   unfold Z9;simp only[hd,List.headD_cons,hk];rw[if_pos hc];rfl
  rw[e]
  refine⟨{ S with sign:=[c],may:=false },?_,rfl,rfl,⟨hr (by rw[hk];rfl),h.os,h.len,h.rs,h.deep,.inr ⟨by rcases hc with rfl | rfl<;>simp,rfl⟩,fun he=>by simp at he⟩,.inr ⟨rfl,hc⟩⟩
  rw[JW hk h.rs]
  rcases hc with rfl | rfl<;>simp[ST.signs,h.sign]
 ·have e:Z9 (t::r)=(0,t::r):=by
   unfold Z9;simp only[hd,List.headD_cons]
   split
   ·rename_i c hk
    rw[if_neg]
    intro h'
    exact hc ⟨c,hk,h'⟩
   ·rfl
  rw[e]
  refine⟨S,rfl,rfl,rfl,⟨h.wf,h.os,h.len,h.rs,h.deep,.inl h.sign,fun _=>⟨hb,?_,?_⟩⟩,.inl ⟨rfl,h.sign⟩⟩
  ·intro hk;exact hc ⟨38,hk,.inl rfl⟩
  ·intro hk;exact hc ⟨33,hk,.inr rfl⟩
theorem zgj {d:Nat} {ts:List Tok} {p:zC} {rest:List Tok} (ih:MPc d (Z9 ts).2 (.ok p rest)):MTm d ts (.ok (.mk (Z9 ts).1 p (Zg rest).1) (Zg rest).2):=by
 intro S pre o h hb
 obtain⟨S1,h1,h2,h3,h4,h5⟩:=zaX h hb
 obtain⟨hw,S',xs1,j,g1,g2⟩:=ih S1 pre o h4
 obtain⟨S2,k,k1,k2,k3,k4,k5⟩:=zdY g2 hw h4.len h4.rs h4.deep h5
 exact⟨S2,k,by rw[h1,g1,k1],by rw[k2,h3],k3,by rw[← h2];exact k4,k5⟩
theorem zgi {d:Nat} {ts:List Tok} {e p:Nat} (ih:MPc d (Z9 ts).2 (.err e p)):MTm d ts (.err e p):=by
 intro S pre o h hb
 obtain⟨S1,h1,h2,h3,h4,h5⟩:=zaX h hb
 show run ts S=_
 rw[h1];exact ih S1 pre o h4
theorem zgh {d:Nat} {ts:List Tok} (hb:zX d ts=false):MSq d ts (.ok [] ts):=by
 intro S pre o h
 refine⟨hb,S,[],rfl,rfl,?_,List.prefix_refl _,by simp[Z7]⟩
 simpa using h
theorem zge {d:Nat} {ts:List Tok} {t:Term} {rest:List Tok} {s:Seq} {rest':List Tok} (hb:zX d ts=true) (iht:MTm d ts (.ok t rest)) (ihs:MSq d rest (.ok s rest')):MSq d ts (.ok (t::s) rest'):=by
 intro S pre o h
 obtain⟨S1,k,h1,h2,h3,h4,h5⟩:=iht S pre o h hb
 obtain⟨hb',S2,ks,g1,g2,g3,g4,g5⟩:=ihs S1 pre _ h3
 refine⟨hb',S2,k::ks,by rw[h1,g1],by rw[g2,h2],by simpa using g3,h4.trans g4,?_⟩
 simp only[Z7]
 exact⟨k,ks,rfl,Zw.mono g4 t h5,g5⟩
theorem zgf {d:Nat} {ts:List Tok} {e p:Nat} (hb:zX d ts=true) (iht:MTm d ts (.err e p)):MSq d ts (.err e p):=fun S pre o h=>iht S pre o h hb
theorem zgg {d:Nat} {ts:List Tok} {t:Term} {rest:List Tok} {e p:Nat} (hb:zX d ts=true) (iht:MTm d ts (.ok t rest)) (ihs:MSq d rest (.err e p)):MSq d ts (.err e p):=by
 intro S pre o h
 obtain⟨S1,k,h1,h2,h3,h4,h5⟩:=iht S pre o h hb
 show run ts S=_
 rw[h1];exact ihs S1 pre _ h3
theorem zg7 {d:Nat} {ts:List Tok} {s:Seq} {rest:List Tok} (hk:(hd rest).kind≠.sign 47) (ihs:MSq d ts (.ok s rest)):MCh d ts (.ok [s] rest):=by
 intro S pre o h ho
 obtain⟨hb,S1,ks,h1,h2,h3,h4,h5⟩:=ihs S pre o h
 refine⟨hb,hk,S1,[],ks,[],s,h1,h2,?_,h4,rfl,by simp[zZ],h5⟩
 rw[ho] at h3;simpa using h3
theorem zcM {d:Nat} {ts:List Tok} {S:ST} {pre:List OP} {o:OP} (h:QG d ts S pre o) (hk:(hd ts).kind = .sign 47) :
  run ts S=run ts.tail { S.slash with may:=false }∧QG d ts.tail { S.slash with may:=false } pre ⟨o.seqs++[S.xs.length],[],o.sign⟩:=by
 obtain⟨t,r,rfl,hok,hr⟩:=h.wf.form
 simp only[hd,List.headD_cons] at hk
 obtain⟨h1,h2,h3,h4⟩:=VT h.os
 refine⟨?_,⟨hr (by rw[hk];rfl),h1,h.len,by simp only[h3];exact h.rs,h.deep,by simp only[h4];exact h.sign,by simp⟩⟩
 rw[JW hk h.rs];simp[ST.signs,h.sign]
theorem zg9 {d:Nat} {ts:List Tok} {s:Seq} {rest:List Tok} {c:Z5} {rest':List Tok} (hk:(hd rest).kind = .sign 47) (ihs:MSq d ts (.ok s rest)) (ihc:MCh d rest.tail (.ok c rest')):MCh d ts (.ok (s::c) rest'):=by
 intro S pre o h ho
 obtain⟨_,S1,ks,h1,h2,h3,h4,h5⟩:=ihs S pre o h
 obtain⟨g1,g2⟩:=zcM h3 hk
 obtain⟨_,f2,f3,_⟩:=VT h3.os
 obtain⟨hb,h47,S2,qs,ks2,c0,s2,e1,er,e2,e3,rfl,e5,e6⟩:=ihc _ _ _ g2 rfl
 have e3':S1.xs++[⟨5,[],[],0,o.terms++ks⟩] <+: S2.xs:=by
  have:({ S1.slash with may:=false }:ST).xs=S1.xs++[⟨5,[],[],0,o.terms++ks⟩]:=f2
  rw[← this];exact e3
 rw[ho,List.nil_append] at e3'
 have hS1:S1.xs <+: S2.xs:=(List.prefix_append _ _).trans e3'
 refine⟨hb,h47,S2,S1.xs.length::qs,ks2,s::c0,s2,by rw[h1,g1,e1],?_,?_,h4.trans hS1,rfl,?_,e6⟩
 ·rw[er];show S1.slash.rs=_;rw[f3,h2]
 ·simpa using e2
 ·simp only[zZ]
  exact⟨S1.xs.length,qs,ks,rfl,YF e3' YA,Z7.mono hS1 s h5,e5⟩
theorem zg6 {d:Nat} {ts:List Tok} {e p:Nat} (ihs:MSq d ts (.err e p)):MCh d ts (.err e p):=fun S pre o h _=>ihs S pre o h
theorem zg8 {d:Nat} {ts:List Tok} {s:Seq} {rest:List Tok} {e p:Nat} (hk:(hd rest).kind = .sign 47) (ihs:MSq d ts (.ok s rest)) (ihc:MCh d rest.tail (.err e p)):MCh d ts (.err e p):=by
 intro S pre o h ho
 obtain⟨_,S1,ks,h1,h2,h3,h4,h5⟩:=ihs S pre o h
 obtain⟨g1,g2⟩:=zcM h3 hk
 show run ts S=_
 rw[h1,g1];exact ihc _ _ _ g2 rfl
theorem zbd {d:Nat} {ts:List Tok} {r:Res Z5} (h:Z8 d ts r):MCh d ts r:=by
 refine Z8.rec (motive_1:=fun d ts r _=>MPc d ts r) (motive_2:=fun d ts r _=>MTm d ts r) (motive_3:=fun d ts r _=>MSq d ts r) (motive_4:=fun d ts r _=>MCh d ts r) ?_ ?_ ?_ ?_ ?_ ?_ ?_ ?_ ?_ ?_ ?_ ?_ ?_ ?_ ?_ ?_ h
 ·intro d ts p hp;exact zgd hp
 ·intro d ts hn hk;exact zg5 hn hk
 ·intro ts hk;exact zga hk
 ·intro d ts c rest hk hd _ hcl ih;exact zgb hk hd hcl ih
 ·intro d ts c rest hk hd _ hcl ih;exact zgk hk hd hcl ih
 ·intro d ts e p hk hd _ ih;exact zgc hk hd ih
 ·intro d ts p rest _ ih;exact zgj ih
 ·intro d ts e p _ ih;exact zgi ih
 ·intro d ts hb;exact zgh hb
 ·intro d ts t rest s rest' hb _ _ iht ihs;exact zge hb iht ihs
 ·intro d ts e p hb _ iht;exact zgf hb iht
 ·intro d ts t rest e p hb _ _ iht ihs;exact zgg hb iht ihs
 ·intro d ts s rest _ hk ihs;exact zg7 hk ihs
 ·intro d ts s rest c rest' _ hk _ ihs ihc;exact zg9 hk ihs ihc
 ·intro d ts e p _ ihs;exact zg6 ihs
 ·intro d ts s rest e p _ hk _ ihs ihc;exact zg8 hk ihs ihc
def zV (xs:List RE):List (z7 × Nat)→List ze→Prop
 | [],[]=>True
 | x::rs,r::g=>x.1=r.name∧zw xs x.2 (.group r.choice)∧zV xs rs g
 | _,_=>False
theorem zV.mono {xs ys:List RE} (h:xs <+: ys):∀ (rs:List (z7 × Nat)) (g:List ze),zV xs rs g→zV ys rs g
 | [],[]=>id
 | x::rs,r::g=>fun ⟨h1,h2,h3⟩=>⟨h1,zw.mono h _ h2,zV.mono h rs g h3⟩
 | [],_::_=>fun h=>h.elim
 | _::_,[]=>fun h=>h.elim
theorem zV.snoc {xs:List RE}:∀ (rs:List (z7 × Nat)) (g:List ze) {b:z7} {k:Nat} {r:ze},zV xs rs g→b=r.name→zw xs k (.group r.choice)→zV xs (rs++[(b,k)]) (g++[r])
 | [],[],_,_,_=>fun _ h1 h2=>⟨h1,h2,trivial⟩
 | x::rs,r0::g,_,_,_=>fun ⟨h0,h1,h2⟩ h3 h4=>⟨h0,h1,zV.snoc rs g h2 h3 h4⟩
 | [],_::_,_,_,_=>fun h=>h.elim
 | _::_,[],_,_,_=>fun h=>h.elim
def S0:ST:=⟨[],[],[],[],false⟩
structure Btw (n:Nat) (ts:List Tok) (S:ST) (g0:List ze):Prop where
 at0:∃ o,QG 0 ts S [] o∧∃ rr nm c0 s gg,g0=gg++[⟨nm,c0++[s]⟩]∧S.rs=rr++[(nm,0)]∧rr.length+1=n∧zV S.xs rr gg∧zZ S.xs o.seqs c0∧Z7 S.xs o.terms s
 none:zX 0 ts=false
 slash:(hd ts).kind≠.sign 47
def Start (n:Nat) (ts:List Tok) (S:ST) (g0:List ze):Prop:=(n=0∧S=S0∧g0=[]∧Wf ts)∨Btw n ts S g0
theorem Start.wf {n:Nat} {ts:List Tok} {S:ST} {g0:List ze} (h:Start n ts S g0):Wf ts:=by
 rcases h with ⟨_,_,_,h⟩ | h
 ·exact h
 ·obtain⟨o,h1,_⟩:=h.at0;exact h1.wf
theorem zap {n:Nat} {ts:List Tok} {S:ST} {g0:List ze} (h:Start n ts S g0):S.rule.os=[]∧S.rule.rs.length=n∧S.rule.sign=[]∧zV S.rule.xs S.rule.rs g0∧S.sign=[]∧S.os.length≤1∧S.rs.length=n:=by
 rcases h with ⟨rfl,rfl,rfl,_⟩ | h
 ·simp[ST.rule,S0,zV]
 ·obtain⟨o,h1,rr,nm,c0,s,gg,rfl,h3,h4,h5,h6,h7⟩:=h.at0
  have hos:S.os=[]++[o]:=h1.os
  obtain⟨f1,f2,f3,f4⟩:=KG hos
  have hrs:S.rs≠[]:=h1.rs
  have e:S.rule = { S.closed with rs:=rr++[(nm,S.xs.length+1)] }:=by
   unfold ST.rule;rw[if_neg hrs,h3];simp[List.getLastD_concat]
  have hx:S.xs <+: S.closed.xs:=by rw[f2,List.append_assoc];exact List.prefix_append _ _
  rw[e]
  refine⟨f1,by simp[h4],by simp only[f4];exact h1.sign,?_,h1.sign,by rw[hos];simp,by rw[h3];simp[h4]⟩
  refine zV.snoc rr gg (zV.mono hx _ _ h5) rfl ?_
  simp only[zw]
  refine⟨o.seqs++[S.xs.length],by rw[f2];simp,zZ.snoc c0 (zZ.mono hx c0 h6) (ks:=o.terms) (by rw[f2];simp) (Z7.mono hx s h7)⟩
theorem zb2 {n:Nat} {t m:Tok} {r:List Tok} {S:ST} {g0:List ze} (h:Start n (t::m::r) S g0) (hk:t.kind = .name) (ha:m.kind = .arrow) (hn:n<20) :
  run (t::m::r) S=run r (S.begin t.text)∧QG 0 r (S.begin t.text) [] ⟨[],[],[]⟩∧(S.begin t.text).rs=S.rule.rs++[(t.text,0)]∧zV (S.begin t.text).xs S.rule.rs g0∧S.rule.rs.length=n:=by
 obtain⟨h1,h2,h3,h4,h5,h6,h7⟩:=zap h
 have hw:=h.wf
 have hw1:Wf (m::r):=by
  have:=hw.2;rw[if_neg (by simp[hk,TK.last])] at this;exact this
 have hw2:Wf r:=by
  have:=hw1.2;rw[if_neg (by simp[ha,TK.last])] at this;exact this
 refine⟨?_,⟨hw2,by simp[ST.begin,h1],rfl,by simp[ST.begin],by omega,by simpa [ST.begin] using h3,by simp[ST.begin]⟩,rfl,h4,h2⟩
 rw[UZ hk (by rw[ha];rfl),if_neg (by rintro (h' | h');exact h' h5;omega),if_neg (by omega)]
theorem zir {n:Nat} {t m:Tok} {r:List Tok} {S:ST} {g0:List ze} {c:Z5} {rest:List Tok} (h:Start n (t::m::r) S g0) (hk:t.kind = .name) (ha:m.kind = .arrow) (hn:n<20) (hc:Z8 0 r (.ok c rest)) :
  ∃ S',run (t::m::r) S=run rest S'∧Btw (n+1) rest S' (g0++[⟨t.text,c⟩]):=by
 obtain⟨h1,h2,h3,h4,h5⟩:=zb2 h hk ha hn
 obtain⟨hb,h47,S',qs,ks,c0,s,e1,er,e2,e3,rfl,e5,e6⟩:=zbd hc _ _ _ h2 rfl
 refine⟨S',by rw[h1,e1],⟨⟨_,e2,S.rule.rs,t.text,c0,s,g0,rfl,by rw[er,h3],by rw[h5],zV.mono e3 _ _ h4,?_,e6⟩,hb,h47⟩⟩
 simpa using e5
theorem zis {n:Nat} {t m:Tok} {r:List Tok} {S:ST} {g0:List ze} {e p:Nat} (h:Start n (t::m::r) S g0) (hk:t.kind = .name) (ha:m.kind = .arrow) (hn:n<20) (hc:Z8 0 r (.err e p)):run (t::m::r) S = .error (e,p):=by
 obtain⟨h1,h2,_⟩:=zb2 h hk ha hn
 rw[h1];exact zbd hc _ _ _ h2 rfl
theorem zgM {n:Nat} {ts:List Tok} {S:ST} {g0:List ze} (h:Start n ts S g0) (hk:(hd ts).kind≠.name) (hf:n≠0→(hd ts).kind≠.fin):run ts S = .error (2,(hd ts).place):=by
 obtain⟨t,r,rfl,hok,hr⟩:=h.wf.form
 simp only[hd,List.headD_cons] at hk hf ⊢
 rcases h with ⟨rfl,rfl,rfl,_⟩ | h
 ·cases hq:t.kind with
  | name=>exact absurd hq hk
  | bad=>rw[VQ hq]
  | arrow=>rw[KV hq]
  | fin=>rw[VR hq];simp[S0]
  | sign c=>rw[run.eq_def];simp[hq,S0]
  | lit=>rw[run.eq_def];simp[hq,S0]
  | cls=>rw[run.eq_def];simp[hq,S0]
 ·have hb:=h.none
  have h47:=h.slash
  obtain⟨o,h1,rr,nm,c0,s,gg,_,h3,h4,_⟩:=h.at0
  have hmay:=h1.may
  have hos:S.os=[]++[o]:=h1.os
  have hol:¬ 2≤S.os.length:=by rw[hos];simp
  simp only[zX,hd,List.headD_cons] at hb
  simp only[hd,List.headD_cons,Kz] at h47 hmay
  cases hq:t.kind with
  | name=>exact absurd hq hk
  | bad=>rw[VQ hq]
  | arrow=>rw[KV hq]
  | fin=>exact absurd hq (hf (by omega))
  | lit=>simp[hq] at hb
  | cls=>simp[hq] at hb
  | sign c=>
   simp only[hq] at hb h47 hmay
   rw[JW hq h1.rs]
   rcases VS (hok c hq) with rfl | rfl | rfl | rfl | rfl | rfl | rfl | rfl | rfl<;>simp[ST.signs,hol] at hb h47 hmay ⊢<;>simp[hmay]
theorem zgL {n:Nat} {ts:List Tok} {S:ST} {g0:List ze} (h:Start n ts S g0) (hk:(hd ts).kind = .name) (ha:(hd ts.tail).kind≠.arrow):run ts S = .error (2,(hd ts.tail).place):=by
 obtain⟨t,r,rfl,hok,hr⟩:=h.wf.form
 simp only[hd,List.headD_cons] at hk
 obtain⟨m,r',rfl,_⟩:=(hr (by rw[hk];rfl)).form
 simp only[hd,List.headD_cons,List.tail_cons] at ha ⊢
 have ha':m.kind.isArrow=false:=by
  cases hm:m.kind with
  | arrow=>exact absurd hm ha
  | _=>rfl
 rcases h with ⟨rfl,rfl,rfl,_⟩ | h
 ·rw[run.eq_def];simp[hk,ha',S0]
 ·have hb:=h.none
  simp[zX,hd,hk,ha'] at hb
theorem zgu {ts:List Tok} {S:ST} {g0:List ze} (h:Start 20 ts S g0) (hk:(hd ts).kind = .name) (ha:(hd ts.tail).kind = .arrow):run ts S = .error (4,(hd ts.tail).place):=by
 obtain⟨t,r,rfl,hok,hr⟩:=h.wf.form
 simp only[hd,List.headD_cons] at hk
 obtain⟨m,r',rfl,_⟩:=(hr (by rw[hk];rfl)).form
 simp only[hd,List.headD_cons,List.tail_cons] at ha ⊢
 obtain⟨h1,h2,h3,h4,h5,h6,h7⟩:=zap h
 rw[UZ hk (by rw[ha];rfl),if_neg (by rintro (h' | h');exact h' h5;omega),if_pos (by omega)]
theorem UY {n:Nat} {ts:List Tok} {r:Res ze} (hp:ZV n ts r) {S:ST} {g0:List ze} (h:Start n ts S g0) (hn:n≤20) (hf:n≠0→(hd ts).kind≠.fin) :
  match r with
  | .err e p=>run ts S = .error (e,p)
  | .ok ru rest=>∃ S',run ts S=run rest S'∧Btw (n+1) rest S' (g0++[ru]):=by
 cases hp with
 | noName hk=>exact zgM h hk hf
 | many hk ha=>exact zgu h hk ha
 | noArrow hk ha=>exact zgL h hk ha
 | ok hk ha hn' hc=>
  obtain⟨t,r,rfl,hok,hr⟩:=h.wf.form
  simp only[hd,List.headD_cons] at hk
  obtain⟨m,r',rfl,_⟩:=(hr (by rw[hk];rfl)).form
  exact zir h hk ha (by omega) hc
 | err hk ha hn' hc=>
  obtain⟨t,r,rfl,hok,hr⟩:=h.wf.form
  simp only[hd,List.headD_cons] at hk
  obtain⟨m,r',rfl,_⟩:=(hr (by rw[hk];rfl)).form
  exact zis h hk ha (by omega) hc
theorem zbE {n:Nat} {ts:List Tok} {res:Except (Nat × Nat) (List ze)} (hp:ZU n ts res):∀ (S:ST) (g0:List ze),Start n ts S g0→n≤20→(n≠0→(hd ts).kind≠.fin) →
  match res with
  | .error x=>run ts S = .error x
  | .ok g=>∃ S',run ts S = .ok S'∧zV S'.xs S'.rs (g0++g):=by
 induction hp with
 | last hr hk=>
  intro S g0 h hn hf
  obtain⟨S',h1,h2⟩:=UY hr h hn hf
  obtain⟨f1,f2,f3,f4,f5,f6,f7⟩:=zap (.inr h2)
  refine⟨S'.rule,?_,f4⟩
  obtain⟨o,hq,_⟩:=h2.at0
  obtain⟨t,r,rfl,_⟩:=hq.wf.form
  have hk':t.kind = .fin:=hk
  rw[h1,VR hk',if_neg]
  rintro (h' | h' | h')
  ·exact hq.rs h'
  ·exact h' f5
  ·omega
 | more hr hk _ ih=>
  intro S g0 h hn hf
  rename_i n' _ _ _ _ _
  obtain⟨S',h1,h2⟩:=UY hr h hn hf
  have hn1:n'+1≤20:=by
   have hne:n'≠20:=by
    cases hr with
    | ok _ _ h' _=>exact h'
   omega
  obtain⟨S2,h3,h4⟩:=ih S' _ (.inr h2) hn1 (fun _=>hk)
  exact⟨S2,by rw[h1,h3],by simpa using h4⟩
 | err hr=>
  intro S g0 h hn hf
  exact UY hr h hn hf
 | later hr hk _ ih=>
  intro S g0 h hn hf
  rename_i n' _ _ _ _ _
  obtain⟨S',h1,h2⟩:=UY hr h hn hf
  have hn1:n'+1≤20:=by
   have hne:n'≠20:=by
    cases hr with
    | ok _ _ h' _=>exact h'
   omega
  show run _ S=_
  rw[h1]
  exact ih S' _ (.inr h2) hn1 (fun _=>hk)
theorem JX {S:ST} (h:S.os≠[]):∃ pre o,S.os=pre++[o]∧S.top=o:=by
 refine⟨S.os.dropLast,S.os.getLast h,(List.dropLast_concat_getLast h).symm,?_⟩
 unfold ST.top
 conv=>lhs;rw[← List.dropLast_concat_getLast h]
 rw[List.getLastD_concat]
theorem zcK {S:ST} {c:UInt8} {er:Nat} (h:S.signs c = .error er):er=2∨er=3:=by
 unfold ST.signs at h
 repeat' split at h
 all_goals first | (cases h;simp;done) | cases h
end Thk
namespace Go.Proofs.YtiganlkabilblaaGreatDoor
theorem Vh (M:Mat):∀ (m i j:Nat),M i j=true→Wm M m i j=true
 | 0,_,_,h=>h
 | m+1,i,j,h=>by simp only[Wm];rw[Vh M m i j h];rfl
theorem Vi (M:Mat):∀ (m k i j:Nat),k<m→Wm M m i k=true→Wm M m k j=true→Wm M m i j=true
 | 0,_,_,_,h,_,_=>by omega
 | m+1,k,i,j,hk,h1,h2=>by
  simp only[Wm,Bool.or_eq_true,Bool.and_eq_true] at h1 h2 ⊢
  rcases Nat.lt_or_ge k m with hkm | hkm
  ·rcases h1 with h1 | ⟨h1,h1'⟩<;>rcases h2 with h2 | ⟨h2,h2'⟩
   ·exact .inl (Vi M m k i j hkm h1 h2)
   ·exact .inr ⟨Vi M m k i m hkm h1 h2,h2'⟩
   ·exact .inr ⟨h1,Vi M m k m j hkm h1' h2⟩
   ·exact .inr ⟨h1,h2'⟩
  ·have hkm':k=m:=by omega
   subst hkm'
   right
   constructor
   ·rcases h1 with h1 | ⟨h1,_⟩<;>exact h1
   ·rcases h2 with h2 | ⟨_,h2⟩<;>exact h2
theorem QQ.same {names:List Thk.z7} {g:List Thk.ze} {E F:List Bool} (hE:QP names g E) (hE':QQ names g E) (hF:QP names g F) (hF':QQ names g F) (i:Nat):E.getD i false=F.getD i false:=by
 cases h1:E.getD i false with
 | true=>exact (hE' F hF i h1).symm
 | false=>
  cases h2:F.getD i false with
  | false=>rfl
  | true=>have:=hF' E hE i h2;rw[h1] at this;cases this
end Go.Proofs.YtiganlkabilblaaGreatDoor
namespace Go.Proofs.YtiganlkabilblaaGreatDoor
open Thk
theorem zV.get {xs:List RE}:∀ (rs:List (z7 × Nat)) (g:List ze),zV xs rs g→rs.length=g.length∧∀ i (h:i<g.length),(rs.map (·.1)).getD i []=g[i].name∧zw xs ((rs.map (·.2)).getD i 0) (.group g[i].choice)
 | [],[]=>fun _=>⟨rfl,fun i h=>by simp at h⟩
 | x::rs,r::g=>fun ⟨h1,h2,h3⟩=>by
  obtain⟨e,ih⟩:=zV.get rs g h3
  refine⟨by simp[e],fun i h=>?_⟩
  cases i with
  | zero=>exact⟨h1,h2⟩
  | succ i=>exact ih i (by simpa using h)
 | [],_::_=>fun h=>h.elim
 | _::_,[]=>fun h=>h.elim
end Go.Proofs.YtiganlkabilblaaGreatDoor
namespace Thk
def RE.Fit (n:Nat) (e:RE):Prop:=(∀ p ∈ e.parts,p<n)∧(6<e.kind→∃ p,e.parts=[p])∧e.rule=0
theorem RE.Fit.mono {n m:Nat} {e:RE} (h:e.Fit n) (hm:n≤m):e.Fit m:=⟨fun p hp=>Nat.lt_of_lt_of_le (h.1 p hp) hm,h.2⟩
structure Wx (S:ST):Prop where
 ex:∀ e ∈ S.xs,e.Fit S.xs.length
 os:∀ o ∈ S.os,(∀ k ∈ o.terms,k<S.xs.length)∧∀ k ∈ o.seqs,k<S.xs.length
 rs:∀ r ∈ S.rs.dropLast,r.2<S.xs.length
theorem Wx.zero:Wx S0:=⟨by simp[S0],by simp[S0],by simp[S0]⟩
theorem Wx.top {S:ST} (h:Wx S):(∀ k ∈ S.top.terms,k<S.xs.length)∧∀ k ∈ S.top.seqs,k<S.xs.length:=by
 by_cases hne:S.os=[]
 ·simp[ST.top,hne]
 ·obtain⟨pre,o,h1,h2⟩:=JX hne
  rw[h2];exact h.os o (by rw[h1];simp)
theorem Wx.add {S:ST} (h:Wx S) {e:RE} (he:e.Fit (S.xs.length+1)):Wx (S.add e):=by
 have hl:(S.add e).xs.length=S.xs.length+1:=by simp[ST.add]
 refine⟨?_,?_,?_⟩
 ·rw[hl]
  intro x hx
  rcases List.mem_append.1 hx with hx | hx
  ·exact (h.ex x hx).mono (by omega)
  ·simp only[List.mem_singleton] at hx
   subst hx;exact he
 ·rw[hl]
  intro o ho
  have:=h.os o ho
  exact⟨fun k hk=>by have:=this.1 k hk;omega,fun k hk=>by have:=this.2 k hk;omega⟩
 ·rw[hl]
  intro r hr
  have:=h.rs r hr
  omega
theorem Wx.setTop {S:ST} (h:Wx S) {o:OP} (h1:∀ k ∈ o.terms,k<S.xs.length) (h2:∀ k ∈ o.seqs,k<S.xs.length):Wx (S.setTop o):=by
 refine⟨h.ex,?_,h.rs⟩
 intro x hx
 rcases List.mem_append.1 hx with hx | hx
 ·exact h.os x (List.dropLast_subset _ hx)
 ·simp only[List.mem_singleton] at hx
  subst hx;exact⟨h1,h2⟩
theorem Wx.may {S:ST} (h:Wx S) (m:Bool):Wx { S with may:=m }:=⟨h.ex,h.os,h.rs⟩
theorem Wx.sgn {S:ST} (h:Wx S) (m:z7):Wx { S with sign:=m }:=⟨h.ex,h.os,h.rs⟩
theorem Wx.push {S:ST} (h:Wx S) {k:Nat} (hk:k<S.xs.length):Wx (S.push k):=by
 refine Wx.may (h.setTop (o:={ S.top with terms:=S.top.terms++[k] }) ?_ h.top.2) true
 intro x hx
 rcases List.mem_append.1 hx with hx | hx
 ·exact h.top.1 x hx
 ·simp only[List.mem_singleton] at hx
  subst hx;exact hk
theorem zaD {n k e:Nat} (h:e<n):(zy k e).Fit n:=⟨by intro p hp;simp[zy] at hp;omega,fun _=>⟨e,rfl⟩,rfl⟩
theorem Wx.term {S:ST} (h:Wx S) {k:Nat} (hk:k<S.xs.length) (sg:z7):Wx (S.term k sg):=by
 unfold ST.term
 split
 ·exact h.push hk
 ·exact (h.add (zaD (by omega))).push (by simp[ST.add])
theorem Wx.lay {S:ST} (h:Wx S) {e:RE} (he:e.Fit (S.xs.length+1)):Wx (S.lay e):=by
 unfold ST.lay
 exact Wx.term ((h.sgn []).add he) (by simp[ST.add]) _
theorem qS (t:Tok) (n:Nat):(Zb t).Fit n:=by
 unfold Zb RE.Fit
 split<;>simp
theorem Wx.behind {S:ST} (h:Wx S) (b:z7):Wx (S.behind b):=by
 unfold ST.behind
 simp only[]
 split
 ·rename_i hk
  by_cases hlt:S.top.terms.getLastD 0<S.xs.length
  ·have hx:S.xs.getD (S.top.terms.getLastD 0) RE.z=S.xs[S.top.terms.getLastD 0]:=by rw[List.getD_eq_getElem?_getD,List.getElem?_eq_getElem hlt];rfl
   rw[hx] at hk ⊢
   have hf:=h.ex _ (List.getElem_mem hlt)
   obtain⟨p,hp⟩:=hf.2.1 (by omega)
   have hpl:=hf.1 p (by rw[hp];simp)
   refine⟨?_,?_,?_⟩
   ·simp only[List.length_set,List.length_append,List.length_cons,List.length_nil]
    intro y hy
    rcases List.mem_or_eq_of_mem_set hy with hy | hy
    ·rcases List.mem_append.1 hy with hy | hy
     ·exact (h.ex y hy).mono (by omega)
     ·simp only[List.mem_singleton] at hy
      subst hy
      exact zaD (by rw[hp];simp;omega)
    ·subst hy
     exact⟨by intro q hq;simp at hq;omega,fun _=>⟨_,rfl⟩,hf.2.2⟩
   ·simp only[List.length_set,List.length_append,List.length_cons,List.length_nil]
    intro o ho
    have:=h.os o ho
    exact⟨fun k hk=>by have:=this.1 k hk;omega,fun k hk=>by have:=this.2 k hk;omega⟩
   ·simp only[List.length_set,List.length_append,List.length_cons,List.length_nil]
    intro r hr
    have:=h.rs r hr
    omega
  ·have hx:S.xs.getD (S.top.terms.getLastD 0) RE.z=RE.z:=by
    rw[List.getD_eq_getElem?_getD,List.getElem?_eq_none (by omega)];rfl
   rw[hx] at hk
   simp[RE.z] at hk
 ·refine Wx.may (S:=(S.add (zy (zE b) (S.top.terms.getLastD 0))).setTop { S.top with terms:=S.top.terms.dropLast++[S.xs.length] }) ((h.add (zaD ?_)).setTop ?_ ?_) false
  ·by_cases hn:S.top.terms=[]
   ·rw[hn];simp
   ·obtain⟨l,a,hla⟩:∃ l a,S.top.terms=l++[a]:=⟨_,_,(List.dropLast_concat_getLast hn).symm⟩
    have:=h.top.1 a (by rw[hla];simp)
    rw[hla,List.getLastD_concat];omega
  ·intro k hk
   rcases List.mem_append.1 hk with hk | hk
   ·have:=h.top.1 k (List.dropLast_subset _ hk)
    simp[ST.add];omega
   ·simp only[List.mem_singleton] at hk
    subst hk;simp[ST.add]
  ·intro k hk
   have:=h.top.2 k hk
   simp[ST.add];omega
theorem Wx.slash {S:ST} (h:Wx S):Wx S.slash:=by
 unfold ST.slash
 refine (h.add (e:=⟨5,[],[],0,S.top.terms⟩) ⟨fun p hp=>by have:=h.top.1 p hp;omega,by simp,rfl⟩).setTop (by simp) ?_
 intro k hk
 rcases List.mem_append.1 hk with hk | hk
 ·have:=h.top.2 k hk
  simp[ST.add];omega
 ·simp only[List.mem_singleton] at hk
  subst hk;simp[ST.add]
theorem Wx.less {S:ST} (h:Wx S) {os:List OP} (ho:∀ o ∈ os,o ∈ S.os∨(o.terms=[]∧o.seqs=[])):Wx { S with os:=os }:=by
 refine⟨h.ex,?_,h.rs⟩
 intro o h1
 rcases ho o h1 with h2 | ⟨h2,h3⟩
 ·exact h.os o h2
 ·rw[h2,h3];simp
theorem zcL (S:ST):S.slash.xs.length=S.xs.length+1:=by simp[ST.slash,ST.setTop,ST.add]
theorem Wx.closed {S:ST} (h:Wx S):Wx S.closed:=by
 unfold ST.closed
 refine Wx.add (h.slash.less (os:=S.os.dropLast) ?_) ⟨?_,by simp,rfl⟩
 ·intro o ho
  left
  show o ∈ S.os.dropLast++_
  exact List.mem_append_left _ ho
 ·simp only[zcL]
  intro p hp
  rcases List.mem_append.1 hp with hp | hp
  ·have:=h.top.2 p hp;omega
  ·simp only[List.mem_singleton] at hp
   omega
theorem Vt (S:ST):S.closed.xs.length=S.xs.length+2:=by simp[ST.closed,ST.slash,ST.setTop,ST.add]
theorem Wx.rule {S:ST} (h:Wx S):Wx S.rule∧∀ r ∈ S.rule.rs,r.2<S.rule.xs.length:=by
 unfold ST.rule
 split
 ·rename_i hr
  exact⟨h,by rw[hr];simp⟩
 ·have hc:=h.closed
  refine⟨⟨hc.ex,hc.os,?_⟩,?_⟩
  ·simp only[List.dropLast_concat,Vt]
   intro r hr
   have:=h.rs r hr;omega
  ·simp only[Vt]
   intro r hr
   rcases List.mem_append.1 hr with hr | hr
   ·have:=h.rs r hr;omega
   ·simp only[List.mem_singleton] at hr
    subst hr;simp
theorem Wx.begin {S:ST} (h:Wx S) (b:z7):Wx (S.begin b):=by
 obtain⟨h1,h2⟩:=h.rule
 refine⟨h1.ex,?_,?_⟩
 ·intro o ho
  rcases List.mem_append.1 ho with ho | ho
  ·exact h1.os o ho
  ·simp only[List.mem_singleton] at ho
   subst ho;simp
 ·simp only[ST.begin,List.dropLast_concat]
  exact h2
theorem Wx.signs {S S':ST} (h:Wx S) {c:UInt8} (hs:S.signs c = .ok S'):Wx S':=by
 unfold ST.signs at hs
 repeat' split at hs
 all_goals first
  | cases hs;done
  | (cases hs;exact h.slash.may false)
  | (cases hs;exact⟨h.ex,h.os,h.rs⟩)
  | (cases hs;exact h.behind _)
  | (cases hs;refine⟨h.ex,?_,h.rs⟩;intro o ho;rcases List.mem_append.1 ho with ho | ho;exact h.os o ho;simp only[List.mem_singleton] at ho;subst ho;simp)
  | (cases hs;exact h.closed.term (by rw[Vt];omega) _)
  | (cases hs;exact h.lay ⟨by simp,by simp,rfl⟩)
theorem ziA:∀ (n:Nat) (ts:List Tok),ts.length≤n→∀ S S',Wx S→run ts S = .ok S'→Wx S'∧∀ r ∈ S'.rs,r.2<S'.xs.length:=by
 intro n
 induction n with
 | zero=>
  intro ts hl S S' _ hr
  have:ts=[]:=List.length_eq_zero_iff.1 (by omega)
  subst this
  simp[run] at hr
 | succ n ih=>
  intro ts hl S S' h hr
  cases ts with
  | nil=>simp[run] at hr
  | cons t rest=>
   simp at hl
   rw[run.eq_def] at hr
   simp only[] at hr
   cases hk:t.kind with
   | bad=>simp only[hk] at hr;cases hr
   | fin=>
    simp only[hk] at hr
    split at hr
    ·cases hr
    ·cases hr;exact h.rule
   | arrow=>simp only[hk] at hr;cases hr
   | sign c=>
    simp only[hk] at hr
    split at hr
    ·cases hr
    ·split at hr
     ·cases hr
     ·rename_i S1 hs
      exact ih rest hl S1 S' (h.signs hs) hr
   | lit=>
    simp only[hk] at hr
    split at hr
    ·cases hr
    ·exact ih rest hl _ S' (h.lay (qS _ _)) hr
   | cls=>
    simp only[hk] at hr
    split at hr
    ·cases hr
    ·exact ih rest hl _ S' (h.lay (qS _ _)) hr
   | name=>
    simp only[hk] at hr
    cases rest with
    | nil=>simp at hr
    | cons m rest'=>
     simp only[] at hr
     simp at hl
     split at hr
     ·split at hr
      ·cases hr
      ·split at hr
       ·cases hr
       ·exact ih rest' (by omega) _ S' (h.begin _) hr
     ·split at hr
      ·cases hr
      ·exact ih (m::rest') (by simp;omega) _ S' (h.lay (qS _ _)) hr
end Thk
namespace Go.Proofs.YtiganlkabilblaaGreatDoor
open Thk
def HT (names:List z7) (E:List Bool) (u:Bool):Term→Bool:=if u then zv names else zJ (Eb names E)
theorem KK {names:List z7} {a b:UInt8} {p:zC} (h:ZG (zv names) (.mk a p b)=false):Zi (zv names) p=false∧∀ b',p = .name b'→names.contains b'=true:=by
 simp only[ZG,Bool.or_eq_false_iff] at h
 refine⟨h.2,?_⟩
 intro b' hp
 subst hp
 have:=h.1
 simpa [zv,Term.piece] using this
theorem zbP (names:List z7) (j:Nat):∀ (l:List z7) (B:List Bool),j<B.length→(ZJ names B l).getD j false=(B.getD j false || (l.map (idx0 names)).contains j)
 | [],B,_=>by simp[ZJ]
 | b::l,B,hj=>by
  show (ZJ names (B.set (idx0 names b) true) l).getD j false=_
  rw[zbP names j l _ (by simpa using hj)]
  simp only[List.getD_eq_getElem?_getD,List.getElem?_set,List.map_cons,List.contains_cons]
  by_cases h:idx0 names b=j
  ·subst h;simp[hj]
  ·rw[if_neg h]
   have:(j == idx0 names b)=false:=by simpa using fun e=>h e.symm
   rw[this];simp
theorem KJ {names:List z7} {E:List Bool} {g:List ze} {i j:Nat} (hi:i<g.length) (hn : 0<names.length):Za names E g i j=true↔j ∈ (ZC (Eb names E) g[i].choice).map (idx0 names):=by
 unfold Za
 simp only[List.getElem?_eq_getElem hi,Option.map_some,Option.getD_some]
 by_cases hj:j<names.length
 ·rw[zbP _ _ _ _ (by simpa using hj)]
  simp[hj]
 ·constructor
  ·intro h
   rw[List.getD_eq_getElem?_getD,List.getElem?_eq_none (by rw[UO];simp;omega)] at h
   cases h
  ·intro h
   obtain⟨b,_,hb⟩:=List.mem_map.1 h
   have:=YU b hn
   omega
end Go.Proofs.YtiganlkabilblaaGreatDoor
namespace Thk
def Js (d:Nat) (ts:List Tok) (r:Res zC):Prop:=∀ r',Qi d ts r'→r=r'
def Yc (d:Nat) (ts:List Tok) (r:Res Term):Prop:=∀ r',QF d ts r'→r=r'
def J2 (d:Nat) (ts:List Tok) (r:Res Seq):Prop:=∀ r',ZW d ts r'→r=r'
def Je (d:Nat) (ts:List Tok) (r:Res Z5):Prop:=∀ r',Z8 d ts r'→r=r'
theorem Uy {d:Nat} {ts:List Tok} {p:zC} (hp:zU (hd ts)=some p):Js d ts (.ok p ts.tail):=by
 intro r' h'
 cases h' with
 | plain hp'=>rw[hp] at hp';cases hp';rfl
 | bad hn _=>rw[hp] at hn;cases hn
 | deep hk=>exact absurd hp (by simp[zU,hk])
 | group hk _ _ _=>exact absurd hp (by simp[zU,hk])
 | unclosed hk _ _ _=>exact absurd hp (by simp[zU,hk])
 | inner hk _ _=>exact absurd hp (by simp[zU,hk])
theorem Uu {d:Nat} {ts:List Tok} (hn:zU (hd ts)=none) (hk:(hd ts).kind≠.sign 40):Js d ts (.err 2 (hd ts).place):=by
 intro r' h'
 cases h' with
 | plain hp'=>rw[hn] at hp';cases hp'
 | bad _ _=>rfl
 | deep hk'=>exact absurd hk' hk
 | group hk' _ _ _=>exact absurd hk' hk
 | unclosed hk' _ _ _=>exact absurd hk' hk
 | inner hk' _ _=>exact absurd hk' hk
theorem Uv {ts:List Tok} (hk:(hd ts).kind = .sign 40):Js 6 ts (.err 3 (hd ts).place):=by
 intro r' h'
 cases h' with
 | plain hp'=>exact absurd hp' (by simp[zU,hk])
 | bad _ hk'=>exact absurd hk hk'
 | deep _=>rfl
 | group _ hd _ _=>exact absurd rfl hd
 | unclosed _ hd _ _=>exact absurd rfl hd
 | inner _ hd _=>exact absurd rfl hd
theorem Uw {d:Nat} {ts:List Tok} {c:Z5} {rest:List Tok} (hk:(hd ts).kind = .sign 40) (hd':d≠6) (hc:Z8 (d+1) ts.tail (.ok c rest)) (hcl:(hd rest).kind = .sign 41) (ihc:Je (d+1) ts.tail (.ok c rest)):Js d ts (.ok (.group c) rest.tail):=by
 intro r' h'
 cases h' with
 | plain hp'=>exact absurd hp' (by simp[zU,hk])
 | bad _ hk'=>exact absurd hk hk'
 | deep _=>exact absurd rfl hd'
 | group _ _ hc' _=>have:=ihc _ hc';cases this;rfl
 | unclosed _ _ hc' hcl'=>have:=ihc _ hc';cases this;exact absurd hcl hcl'
 | inner _ _ hc'=>have:=ihc _ hc';cases this
theorem Uz {d:Nat} {ts:List Tok} {c:Z5} {rest:List Tok} (hk:(hd ts).kind = .sign 40) (hd':d≠6) (hc:Z8 (d+1) ts.tail (.ok c rest)) (hcl:(hd rest).kind≠.sign 41) (ihc:Je (d+1) ts.tail (.ok c rest)):Js d ts (.err 2 (hd rest).place):=by
 intro r' h'
 cases h' with
 | plain hp'=>exact absurd hp' (by simp[zU,hk])
 | bad _ hk'=>exact absurd hk hk'
 | deep _=>exact absurd rfl hd'
 | group _ _ hc' hcl'=>have:=ihc _ hc';cases this;exact absurd hcl' hcl
 | unclosed _ _ hc' _=>have:=ihc _ hc';cases this;rfl
 | inner _ _ hc'=>have:=ihc _ hc';cases this
theorem Ux {d:Nat} {ts:List Tok} {e p:Nat} (hk:(hd ts).kind = .sign 40) (hd':d≠6) (hc:Z8 (d+1) ts.tail (.err e p)) (ihc:Je (d+1) ts.tail (.err e p)):Js d ts (.err e p):=by
 intro r' h'
 cases h' with
 | plain hp'=>exact absurd hp' (by simp[zU,hk])
 | bad _ hk'=>exact absurd hk hk'
 | deep _=>exact absurd rfl hd'
 | group _ _ hc' _=>have:=ihc _ hc';cases this
 | unclosed _ _ hc' _=>have:=ihc _ hc';cases this
 | inner _ _ hc'=>have:=ihc _ hc';cases this;rfl
theorem UF {d:Nat} {ts:List Tok} {p:zC} {rest:List Tok} (hp:Qi d (Z9 ts).2 (.ok p rest)) (ihp:Js d (Z9 ts).2 (.ok p rest)):Yc d ts (.ok (.mk (Z9 ts).1 p (Zg rest).1) (Zg rest).2):=by
 intro r' h'
 cases h' with
 | ok hp'=>have:=ihp _ hp';cases this;rfl
 | err hp'=>have:=ihp _ hp';cases this
theorem UE {d:Nat} {ts:List Tok} {e p:Nat} (hp:Qi d (Z9 ts).2 (.err e p)) (ihp:Js d (Z9 ts).2 (.err e p)):Yc d ts (.err e p):=by
 intro r' h'
 cases h' with
 | ok hp'=>have:=ihp _ hp';cases this
 | err hp'=>have:=ihp _ hp';cases this;rfl
theorem UD {d:Nat} {ts:List Tok} (hb:zX d ts=false):J2 d ts (.ok [] ts):=by
 intro r' h'
 cases h' with
 | nil _=>rfl
 | cons hb' _ _=>rw[hb] at hb';cases hb'
 | err hb' _=>rw[hb] at hb';cases hb'
 | later hb' _ _=>rw[hb] at hb';cases hb'
theorem UA {d:Nat} {ts:List Tok} {t:Term} {rest:List Tok} {s:Seq} {rest':List Tok} (hb:zX d ts=true) (ht:QF d ts (.ok t rest)) (hs:ZW d rest (.ok s rest')) (iht:Yc d ts (.ok t rest)) (ihs:J2 d rest (.ok s rest')):J2 d ts (.ok (t::s) rest'):=by
 intro r' h'
 cases h' with
 | nil hb'=>rw[hb] at hb';cases hb'
 | cons _ ht' hs'=>have:=iht _ ht';cases this;have:=ihs _ hs';cases this;rfl
 | err _ ht'=>have:=iht _ ht';cases this
 | later _ ht' hs'=>have:=iht _ ht';cases this;have:=ihs _ hs';cases this
theorem UB {d:Nat} {ts:List Tok} {e p:Nat} (hb:zX d ts=true) (ht:QF d ts (.err e p)) (iht:Yc d ts (.err e p)):J2 d ts (.err e p):=by
 intro r' h'
 cases h' with
 | nil hb'=>rw[hb] at hb';cases hb'
 | cons _ ht' _=>have:=iht _ ht';cases this
 | err _ ht'=>have:=iht _ ht';cases this;rfl
 | later _ ht' _=>have:=iht _ ht';cases this
theorem UC {d:Nat} {ts:List Tok} {t:Term} {rest:List Tok} {e p:Nat} (hb:zX d ts=true) (ht:QF d ts (.ok t rest)) (hs:ZW d rest (.err e p)) (iht:Yc d ts (.ok t rest)) (ihs:J2 d rest (.err e p)):J2 d ts (.err e p):=by
 intro r' h'
 cases h' with
 | nil hb'=>rw[hb] at hb';cases hb'
 | cons _ ht' hs'=>have:=iht _ ht';cases this;have:=ihs _ hs';cases this
 | err _ ht'=>have:=iht _ ht';cases this
 | later _ ht' hs'=>have:=iht _ ht';cases this;have:=ihs _ hs';cases this;rfl
theorem Ur {d:Nat} {ts:List Tok} {s:Seq} {rest:List Tok} (hs:ZW d ts (.ok s rest)) (hk:(hd rest).kind≠.sign 47) (ihs:J2 d ts (.ok s rest)):Je d ts (.ok [s] rest):=by
 intro r' h'
 cases h' with
 | last hs' _=>have:=ihs _ hs';cases this;rfl
 | more hs' hk' _=>have:=ihs _ hs';cases this;exact absurd hk' hk
 | err hs'=>have:=ihs _ hs';cases this
 | later hs' hk' _=>have:=ihs _ hs';cases this;exact absurd hk' hk
theorem Ut {d:Nat} {ts:List Tok} {s:Seq} {rest:List Tok} {c:Z5} {rest':List Tok} (hs:ZW d ts (.ok s rest)) (hk:(hd rest).kind = .sign 47) (hc:Z8 d rest.tail (.ok c rest')) (ihs:J2 d ts (.ok s rest)) (ihc:Je d rest.tail (.ok c rest')):Je d ts (.ok (s::c) rest'):=by
 intro r' h'
 cases h' with
 | last hs' hk'=>have:=ihs _ hs';cases this;exact absurd hk hk'
 | more hs' _ hc'=>have:=ihs _ hs';cases this;have:=ihc _ hc';cases this;rfl
 | err hs'=>have:=ihs _ hs';cases this
 | later hs' _ hc'=>have:=ihs _ hs';cases this;have:=ihc _ hc';cases this
theorem Uq {d:Nat} {ts:List Tok} {e p:Nat} (hs:ZW d ts (.err e p)) (ihs:J2 d ts (.err e p)):Je d ts (.err e p):=by
 intro r' h'
 cases h' with
 | last hs' _=>have:=ihs _ hs';cases this
 | more hs' _ _=>have:=ihs _ hs';cases this
 | err hs'=>have:=ihs _ hs';cases this;rfl
 | later hs' _ _=>have:=ihs _ hs';cases this
theorem Us {d:Nat} {ts:List Tok} {s:Seq} {rest:List Tok} {e p:Nat} (hs:ZW d ts (.ok s rest)) (hk:(hd rest).kind = .sign 47) (hc:Z8 d rest.tail (.err e p)) (ihs:J2 d ts (.ok s rest)) (ihc:Je d rest.tail (.err e p)):Je d ts (.err e p):=by
 intro r' h'
 cases h' with
 | last hs' hk'=>have:=ihs _ hs';cases this;exact absurd hk hk'
 | more hs' _ hc'=>have:=ihs _ hs';cases this;have:=ihc _ hc';cases this
 | err hs'=>have:=ihs _ hs';cases this
 | later hs' _ hc'=>have:=ihs _ hs';cases this;have:=ihc _ hc';cases this;rfl
theorem Qi.det {d:Nat} {ts:List Tok} {r r':Res zC} (h:Qi d ts r) (h':Qi d ts r'):r=r':=by
 refine (Qi.rec (motive_1:=fun d ts r _=>Js d ts r) (motive_2:=fun d ts r _=>Yc d ts r) (motive_3:=fun d ts r _=>J2 d ts r) (motive_4:=fun d ts r _=>Je d ts r) ?_ ?_ ?_ ?_ ?_ ?_ ?_ ?_ ?_ ?_ ?_ ?_ ?_ ?_ ?_ ?_ h:Js d ts r) _ h'
 ·intros;apply Uy<;>assumption
 ·intros;apply Uu<;>assumption
 ·intros;apply Uv<;>assumption
 ·intros;apply Uw<;>assumption
 ·intros;apply Uz<;>assumption
 ·intros;apply Ux<;>assumption
 ·intros;apply UF<;>assumption
 ·intros;apply UE<;>assumption
 ·intros;apply UD<;>assumption
 ·intros;apply UA<;>assumption
 ·intros;apply UB<;>assumption
 ·intros;apply UC<;>assumption
 ·intros;apply Ur<;>assumption
 ·intros;apply Ut<;>assumption
 ·intros;apply Uq<;>assumption
 ·intros;apply Us<;>assumption
theorem QF.det {d:Nat} {ts:List Tok} {r r':Res Term} (h:QF d ts r) (h':QF d ts r'):r=r':=by
 refine (QF.rec (motive_1:=fun d ts r _=>Js d ts r) (motive_2:=fun d ts r _=>Yc d ts r) (motive_3:=fun d ts r _=>J2 d ts r) (motive_4:=fun d ts r _=>Je d ts r) ?_ ?_ ?_ ?_ ?_ ?_ ?_ ?_ ?_ ?_ ?_ ?_ ?_ ?_ ?_ ?_ h:Yc d ts r) _ h'
 ·intros;apply Uy<;>assumption
 ·intros;apply Uu<;>assumption
 ·intros;apply Uv<;>assumption
 ·intros;apply Uw<;>assumption
 ·intros;apply Uz<;>assumption
 ·intros;apply Ux<;>assumption
 ·intros;apply UF<;>assumption
 ·intros;apply UE<;>assumption
 ·intros;apply UD<;>assumption
 ·intros;apply UA<;>assumption
 ·intros;apply UB<;>assumption
 ·intros;apply UC<;>assumption
 ·intros;apply Ur<;>assumption
 ·intros;apply Ut<;>assumption
 ·intros;apply Uq<;>assumption
 ·intros;apply Us<;>assumption
theorem ZW.det {d:Nat} {ts:List Tok} {r r':Res Seq} (h:ZW d ts r) (h':ZW d ts r'):r=r':=by
 refine (ZW.rec (motive_1:=fun d ts r _=>Js d ts r) (motive_2:=fun d ts r _=>Yc d ts r) (motive_3:=fun d ts r _=>J2 d ts r) (motive_4:=fun d ts r _=>Je d ts r) ?_ ?_ ?_ ?_ ?_ ?_ ?_ ?_ ?_ ?_ ?_ ?_ ?_ ?_ ?_ ?_ h:J2 d ts r) _ h'
 ·intros;apply Uy<;>assumption
 ·intros;apply Uu<;>assumption
 ·intros;apply Uv<;>assumption
 ·intros;apply Uw<;>assumption
 ·intros;apply Uz<;>assumption
 ·intros;apply Ux<;>assumption
 ·intros;apply UF<;>assumption
 ·intros;apply UE<;>assumption
 ·intros;apply UD<;>assumption
 ·intros;apply UA<;>assumption
 ·intros;apply UB<;>assumption
 ·intros;apply UC<;>assumption
 ·intros;apply Ur<;>assumption
 ·intros;apply Ut<;>assumption
 ·intros;apply Uq<;>assumption
 ·intros;apply Us<;>assumption
theorem Z8.det {d:Nat} {ts:List Tok} {r r':Res Z5} (h:Z8 d ts r) (h':Z8 d ts r'):r=r':=by
 refine (Z8.rec (motive_1:=fun d ts r _=>Js d ts r) (motive_2:=fun d ts r _=>Yc d ts r) (motive_3:=fun d ts r _=>J2 d ts r) (motive_4:=fun d ts r _=>Je d ts r) ?_ ?_ ?_ ?_ ?_ ?_ ?_ ?_ ?_ ?_ ?_ ?_ ?_ ?_ ?_ ?_ h:Je d ts r) _ h'
 ·intros;apply Uy<;>assumption
 ·intros;apply Uu<;>assumption
 ·intros;apply Uv<;>assumption
 ·intros;apply Uw<;>assumption
 ·intros;apply Uz<;>assumption
 ·intros;apply Ux<;>assumption
 ·intros;apply UF<;>assumption
 ·intros;apply UE<;>assumption
 ·intros;apply UD<;>assumption
 ·intros;apply UA<;>assumption
 ·intros;apply UB<;>assumption
 ·intros;apply UC<;>assumption
 ·intros;apply Ur<;>assumption
 ·intros;apply Ut<;>assumption
 ·intros;apply Uq<;>assumption
 ·intros;apply Us<;>assumption
theorem ZV.det {n:Nat} {ts:List Tok} {r r':Res ze} (h:ZV n ts r) (h':ZV n ts r'):r=r':=by
 cases h with
 | noName hk=>cases h'<;>first | rfl | contradiction
 | many hk ha=>cases h'<;>first | rfl | contradiction
 | noArrow hk ha=>cases h'<;>first | rfl | contradiction
 | ok hk ha hn hc=>
  cases h' with
  | noName hk'=>exact absurd hk hk'
  | many _ _=>exact absurd rfl hn
  | noArrow _ ha'=>exact absurd ha ha'
  | ok _ _ _ hc'=>have:=hc.det hc';cases this;rfl
  | err _ _ _ hc'=>have:=hc.det hc';cases this
 | err hk ha hn hc=>
  cases h' with
  | noName hk'=>exact absurd hk hk'
  | many _ _=>exact absurd rfl hn
  | noArrow _ ha'=>exact absurd ha ha'
  | ok _ _ _ hc'=>have:=hc.det hc';cases this
  | err _ _ _ hc'=>have:=hc.det hc';cases this;rfl
theorem ZU.det {n:Nat} {ts:List Tok} {r:Except (Nat × Nat) (List ze)} (h:ZU n ts r):∀ {r'},ZU n ts r'→r=r':=by
 induction h with
 | last hr hk=>
  intro r' h'
  cases h' with
  | last hr' _=>have:=hr.det hr';cases this;rfl
  | more hr' hk' _=>have:=hr.det hr';cases this;exact absurd hk hk'
  | err hr'=>have:=hr.det hr';cases this
  | later hr' hk' _=>have:=hr.det hr';cases this;exact absurd hk hk'
 | more hr hk _ ih=>
  intro r' h'
  cases h' with
  | last hr' hk'=>have:=hr.det hr';cases this;exact absurd hk' hk
  | more hr' _ hg'=>have:=hr.det hr';cases this;have:=ih hg';cases this;rfl
  | err hr'=>have:=hr.det hr';cases this
  | later hr' _ hg'=>have:=hr.det hr';cases this;have:=ih hg';cases this
 | err hr=>
  intro r' h'
  cases h' with
  | last hr' _=>have:=hr.det hr';cases this
  | more hr' _ _=>have:=hr.det hr';cases this
  | err hr'=>have:=hr.det hr';cases this;rfl
  | later hr' _ _=>have:=hr.det hr';cases this
 | later hr hk _ ih=>
  intro r' h'
  cases h' with
  | last hr' hk'=>have:=hr.det hr';cases this;exact absurd hk' hk
  | more hr' _ hg'=>have:=hr.det hr';cases this;have:=ih hg';cases this
  | err hr'=>have:=hr.det hr';cases this
  | later hr' _ hg'=>have:=hr.det hr';cases this;have:=ih hg';cases this;rfl
end Thk
namespace Go.Proofs.YtiganlkabilblaaGreatDoor
open Thk
theorem Yz {ns:List z7}:∀ {o1 o2:Option Nat},JG ns o1→JG ns o2→o1=o2
 | none,none,_,_=>rfl
 | none,some i,h1,h2=>by have:=h1 i h2.1;rw[h2.2.1] at this;cases this
 | some i,none,h1,h2=>by have:=h2 i h1.1;rw[h1.2.1] at this;cases this
 | some i,some j,h1,h2=>by
  rcases Nat.lt_trichotomy i j with h | h | h
  ·have:=h2.2.2 i h;rw[h1.2.1] at this;cases this
  ·rw[h]
  ·have:=h1.2.2 j h;rw[h2.2.1] at this;cases this
theorem JQ {g:List ze} {p:Z5→Bool}:∀ {o1 o2:Option Nat},Qp g p o1→Qp g p o2→o1=o2
 | none,none,_,_=>rfl
 | none,some i,h1,h2=>by obtain⟨h,h3,_⟩:=h2;have:=h1 i h;rw[h3] at this;cases this
 | some i,none,h1,h2=>by obtain⟨h,h3,_⟩:=h1;have:=h2 i h;rw[h3] at this;cases this
 | some i,some j,h1,h2=>by
  obtain⟨a1,a2,a3⟩:=h1
  obtain⟨b1,b2,b3⟩:=h2
  rcases Nat.lt_trichotomy i j with h | h | h
  ·have:=b3 i a1 h;rw[a2] at this;cases this
  ·rw[h]
  ·have:=a3 j b1 h;rw[b2] at this;cases this
theorem za9 {names:List z7} {E:List Bool} {g:List ze}:∀ {o1 o2:Option Nat},Ks names E g o1→Ks names E g o2→o1=o2
 | none,none,_,_=>rfl
 | none,some i,h1,h2=>by have:=h1 i h2.1;rw[h2.2.1] at this;cases this
 | some i,none,h1,h2=>by have:=h2 i h1.1;rw[h1.2.1] at this;cases this
 | some i,some j,h1,h2=>by
  rcases Nat.lt_trichotomy i j with h | h | h
  ·have:=h2.2.2 i h;rw[h1.2.1] at this;cases this
  ·rw[h]
  ·have:=h1.2.2 j h;rw[h2.2.1] at this;cases this
theorem Yy {names:List z7} {g:List ze} {E F:List Bool} (h1:E.length=g.length) (h2:QP names g E) (h3:QQ names g E) (k1:F.length=g.length) (k2:QP names g F) (k3:QQ names g F):E=F:=by
 apply List.ext_getElem (by omega)
 intro i a b
 have:=QQ.same h2 h3 k2 k3 i
 simpa [List.getD_eq_getElem?_getD,a,b] using this
theorem Qh.det {g:List ze} {r1 r2:Except (Nat × Nat) (List Bool)} (h1:Qh g r1) (h2:Qh g r2):r1=r2:=by
 cases h1 with
 | twice a1=>cases h2 with
  | twice b1=>cases Yz a1 b1;rfl
  | unknown b1 _=>cases Yz a1 b1
  | loop b1=>cases Yz a1 b1
  | left b1=>cases Yz a1 b1
  | ok b1=>cases Yz a1 b1
 | unknown a1 a2=>cases h2 with
  | twice b1=>cases Yz a1 b1
  | unknown b1 b2=>cases JQ a2 b2;rfl
  | loop b1 b2=>cases JQ a2 b2
  | left b1 b2=>cases JQ a2 b2
  | ok b1 b2=>cases JQ a2 b2
 | loop a1 a2 a3 a4 a5 a6=>cases h2 with
  | twice b1=>cases Yz a1 b1
  | unknown b1 b2=>cases JQ a2 b2
  | loop b1 b2 b3 b4 b5 b6=>cases Yy a3 a4 a5 b3 b4 b5;cases JQ a6 b6;rfl
  | left b1 b2 b3 b4 b5 b6=>cases Yy a3 a4 a5 b3 b4 b5;cases JQ a6 b6
  | ok b1 b2 b3 b4 b5 b6=>cases Yy a3 a4 a5 b3 b4 b5;cases JQ a6 b6
 | left a1 a2 a3 a4 a5 a6 a7=>cases h2 with
  | twice b1=>cases Yz a1 b1
  | unknown b1 b2=>cases JQ a2 b2
  | loop b1 b2 b3 b4 b5 b6=>cases Yy a3 a4 a5 b3 b4 b5;cases JQ a6 b6
  | left b1 b2 b3 b4 b5 b6 b7=>cases Yy a3 a4 a5 b3 b4 b5;cases za9 a7 b7;rfl
  | ok b1 b2 b3 b4 b5 b6 b7=>cases Yy a3 a4 a5 b3 b4 b5;cases za9 a7 b7
 | ok a1 a2 a3 a4 a5 a6 a7=>cases h2 with
  | twice b1=>cases Yz a1 b1
  | unknown b1 b2=>cases JQ a2 b2
  | loop b1 b2 b3 b4 b5 b6=>cases Yy a3 a4 a5 b3 b4 b5;cases JQ a6 b6
  | left b1 b2 b3 b4 b5 b6 b7=>cases Yy a3 a4 a5 b3 b4 b5;cases za9 a7 b7
  | ok b1 b2 b3 b4 b5 b6 b7=>cases Yy a3 a4 a5 b3 b4 b5;rfl
theorem Zs.det {l:List UInt8} {r1 r2:Except (Nat × Nat) (List ze)} (h1:Zs l r1) (h2:Zs l r2):r1=r2:=by
 cases h1 with
 | long a=>cases h2 with
  | long b=>rfl
  | read b _=>omega
 | read a a2=>cases h2 with
  | long b=>omega
  | read b b2=>exact ZU.det a2 b2
theorem Zo.det {l:List UInt8} {r1 r2:Except (Nat × Nat) (List ze × List Bool)} (h1:Zo l r1) (h2:Zo l r2):r1=r2:=by
 cases h1 with
 | text a=>cases h2 with
  | text b=>have:=Zs.det a b;cases this;rfl
  | rules b _=>have:=Zs.det a b;cases this
  | ok b _=>have:=Zs.det a b;cases this
 | rules a a2=>cases h2 with
  | text b=>have:=Zs.det a b;cases this
  | rules b b2=>have:=Zs.det a b;cases this;have:=Qh.det a2 b2;cases this;rfl
  | ok b b2=>have:=Zs.det a b;cases this;have:=Qh.det a2 b2;cases this
 | ok a a2=>cases h2 with
  | text b=>have:=Zs.det a b;cases this
  | rules b b2=>have:=Zs.det a b;cases this;have:=Qh.det a2 b2;cases this
  | ok b b2=>have:=Zs.det a b;cases this;have:=Qh.det a2 b2;cases this;rfl
end Go.Proofs.YtiganlkabilblaaGreatDoor
namespace Thk
mutual
def ncP:zC→Nat
  | .name _=>1
  | .group c=>ncC c
  | _=>0
def ncT:Term→Nat
  | .mk _ p _=>ncP p
def ncS:List Term→Nat
  | []=>0
  | t::s=>ncT t+ncS s
def ncC:List (List Term)→Nat
  | []=>0
  | s::c=>ncS s+ncC c
 end
theorem zaW (ts:List Tok):(Z9 ts).2.length≤ts.length:=by
 unfold Z9
 repeat' split
 all_goals simp
theorem zb3 (ts:List Tok):(Zg ts).2.length≤ts.length:=by
 unfold Zg
 repeat' split
 all_goals simp
def LP1 (ts:List Tok) (r:Res zC):Prop:=∀ p rest,r = .ok p rest→ncP p+rest.length≤ts.length
def LP2 (ts:List Tok) (r:Res Term):Prop:=∀ p rest,r = .ok p rest→ncT p+rest.length≤ts.length
def LP3 (ts:List Tok) (r:Res Seq):Prop:=∀ p rest,r = .ok p rest→ncS p+rest.length≤ts.length
def LP4 (ts:List Tok) (r:Res Z5):Prop:=∀ p rest,r = .ok p rest→ncC p+rest.length≤ts.length
theorem zg1 {ts:List Tok} {p:zC} (h:zU (hd ts)=some p):LP1 ts (.ok p ts.tail):=by
 intro p' rest e
 cases e
 cases ts with
 | nil=>simp[hd,zU,zB] at h
 | cons t ts=>
  simp only[hd,List.headD_cons] at h
  unfold zU at h
  split at h
  ·cases h;simp[ncP];omega
  ·cases h;simp[ncP]
  ·cases h;simp[ncP]
  ·split at h
   ·cases h;simp[ncP]
   ·cases h
  ·cases h
theorem Z8.nc {d:Nat} {ts:List Tok} {c:Z5} {rest:List Tok} (h:Z8 d ts (.ok c rest)):ncC c+rest.length≤ts.length:=by
 refine (Z8.rec (motive_1:=fun _ ts r _=>LP1 ts r) (motive_2:=fun _ ts r _=>LP2 ts r) (motive_3:=fun _ ts r _=>LP3 ts r) (motive_4:=fun _ ts r _=>LP4 ts r) ?_ ?_ ?_ ?_ ?_ ?_ ?_ ?_ ?_ ?_ ?_ ?_ ?_ ?_ ?_ ?_ h:LP4 ts (.ok c rest)) c rest rfl
 ·intro d ts p h;exact zg1 h
 ·intro d ts h h' p rest e;cases e
 ·intro ts h p rest e;cases e
 ·intro d ts c rest h1 h2 h3 h4 ih p rest' e
  cases e
  have:=ih _ _ rfl
  simp only[ncP,List.length_tail] at this ⊢
  omega
 ·intros;intro p rest e;cases e
 ·intros;intro p rest e;cases e
 ·intro d ts p rest h ih t rest' e
  cases e
  have:=ih _ _ rfl
  have h1:=zaW ts
  have h2:=zb3 rest
  simp only[ncT]
  omega
 ·intros;intro p rest e;cases e
 ·intro d ts h p rest e
  cases e
  simp[ncS]
 ·intro d ts t rest s rest' h1 h2 h3 ih1 ih2 p r e
  cases e
  have:=ih1 _ _ rfl
  have:=ih2 _ _ rfl
  simp only[ncS]
  omega
 ·intros;intro p rest e;cases e
 ·intros;intro p rest e;cases e
 ·intro d ts s rest h1 h2 ih p r e
  cases e
  have:=ih _ _ rfl
  simp only[ncC]
  omega
 ·intro d ts s rest c rest' h1 h2 h3 ih1 ih2 p r e
  cases e
  have:=ih1 _ _ rfl
  have:=ih2 _ _ rfl
  simp only[ncC,List.length_tail] at *
  omega
 ·intros;intro p rest e;cases e
 ·intros;intro p rest e;cases e
theorem ZV.nc {n:Nat} {ts:List Tok} {r:ze} {rest:List Tok} (h:ZV n ts (.ok r rest)):ncC r.choice≤ts.length∧rest.length≤ts.length:=by
 cases h with
 | ok _ _ _ hc=>
  have:=hc.nc
  simp only[List.length_tail] at this
  simp only[]
  omega
theorem ZU.nc {n:Nat} {ts:List Tok} {g:List ze} (h:ZU n ts (.ok g)):∀ r ∈ g,ncC r.choice≤ts.length:=by
 generalize hres:(Except.ok g:Except (Nat × Nat) (List ze))=res at h
 induction h generalizing g with
 | last hr hk=>
  cases hres
  intro r hr'
  simp only[List.mem_singleton] at hr'
  subst hr';exact hr.nc.1
 | more hr hk _ ih=>
  cases hres
  intro r hr'
  rcases List.mem_cons.1 hr' with rfl | hr'
  ·exact hr.nc.1
  ·have:=ih rfl r hr'
   have:=hr.nc.2
   omega
 | err hr=>cases hres
 | later _ _ _ _=>cases hres
theorem zda:∀ (f pos:Nat) (l:z7),(QC f pos l).length≤f
 | 0,_,_=>by simp[QC]
 | f+1,pos,l=>by
  simp only[QC,List.length_cons]
  split
  ·simp
  ·have:=zda f (pos+blk false l+(zM (l.drop (blk false l))).size) ((l.drop (blk false l)).drop (zM (l.drop (blk false l))).size)
   omega
theorem zdf (l:z7):(Qn l).length≤l.length+1:=zda _ _ _
theorem ZV.num {n:Nat} {ts:List Tok} {r:ze} {rest:List Tok} (h:ZV n ts (.ok r rest)):n≠20:=by
 cases h with
 | ok _ _ hn _=>exact hn
theorem ZU.len {n:Nat} {ts:List Tok} {g:List ze} (h:ZU n ts (.ok g)) (hn:n≤20):g≠[]∧n+g.length≤20:=by
 generalize hres:(Except.ok g:Except (Nat × Nat) (List ze))=res at h
 induction h generalizing g with
 | last hr hk=>
  cases hres
  have:=hr.num
  exact⟨by simp,by simp;omega⟩
 | more hr hk _ ih=>
  cases hres
  have h1:=hr.num
  have h2:=ih (by omega) rfl
  refine⟨by simp,?_⟩
  have:=h2.2
  simp only[List.length_cons]
  omega
 | err hr=>cases hres
 | later _ _ _ _=>cases hres
theorem zd5 (S:ST) (k:Nat) (sg:z7):(S.term k sg).xs.length≤S.xs.length+1:=by
 rw[VX];split<;>simp
theorem UM (S:ST) (e:RE):(S.lay e).xs.length≤S.xs.length+2:=by
 unfold ST.lay
 refine Nat.le_trans (zd5 _ _ _) ?_
 simp[ST.add]
theorem ze0 (S:ST) (b:z7):(S.behind b).xs.length≤S.xs.length+1:=by
 unfold ST.behind
 simp only[]
 split<;>simp[ST.add,ST.setTop]
theorem zcu (S:ST):S.rule.xs.length≤S.xs.length+2:=by
 unfold ST.rule
 split
 ·omega
 ·simp only[Vt];omega
theorem zdS (S:ST) (b:z7):(S.begin b).xs.length≤S.xs.length+2:=zcu S
theorem ziK {S S':ST} {c:UInt8} (hs:S.signs c = .ok S'):S'.xs.length≤S.xs.length+3:=by
 unfold ST.signs at hs
 repeat' split at hs
 all_goals first
  | cases hs;done
  | (cases hs;simp only[zcL];omega)
  | (cases hs;simp only[];omega)
  | (cases hs;have:=ze0 S [c];omega)
  | (cases hs;have:=zd5 S.closed (S.xs.length+1) S.top.sign;rw[Vt] at this;omega)
  | (cases hs;have:=UM S ⟨3,[],[],0,[]⟩;omega)
theorem ziz:∀ (n:Nat) (ts:List Tok),ts.length≤n→∀ S S',run ts S = .ok S'→S'.xs.length≤S.xs.length+3 * n:=by
 intro n
 induction n with
 | zero=>
  intro ts hl S S' hr
  have:ts=[]:=List.length_eq_zero_iff.1 (by omega)
  subst this
  simp[run] at hr
 | succ n ih=>
  intro ts hl S S' hr
  cases ts with
  | nil=>simp[run] at hr
  | cons t rest=>
   simp at hl
   rw[run.eq_def] at hr
   simp only[] at hr
   cases hk:t.kind with
   | bad=>simp only[hk] at hr;cases hr
   | fin=>
    simp only[hk] at hr
    split at hr
    ·cases hr
    ·cases hr;have:=zcu S;omega
   | arrow=>simp only[hk] at hr;cases hr
   | sign c=>
    simp only[hk] at hr
    split at hr
    ·cases hr
    ·split at hr
     ·cases hr
     ·rename_i S1 hs
      have h1:=ziK hs
      have:=ih rest hl S1 S' hr
      omega
   | lit=>
    simp only[hk] at hr
    split at hr
    ·cases hr
    ·have h1:=UM S (Zb t)
     have:=ih rest hl _ S' hr
     omega
   | cls=>
    simp only[hk] at hr
    split at hr
    ·cases hr
    ·have h1:=UM S (Zb t)
     have:=ih rest hl _ S' hr
     omega
   | name=>
    simp only[hk] at hr
    cases rest with
    | nil=>simp at hr
    | cons m rest'=>
     simp only[] at hr
     simp at hl
     split at hr
     ·split at hr
      ·cases hr
      ·split at hr
       ·cases hr
       ·have h1:=zdS S t.text
        have:=ih rest' (by omega) _ S' hr
        omega
     ·split at hr
      ·cases hr
      ·have h1:=UM S (Zb t)
       have:=ih (m::rest') (by simp;omega) _ S' hr
       omega
end Thk
namespace Go.Proofs.YtiganlkabilblaaGreatDoor
open Thk
theorem qG:∀ (n:Nat) (l:List UInt8) (pos:Nat),l.length≤n→Wf (TL pos l):=by
 intro n
 induction n with
 | zero=>
  intro l pos hl
  have:l=[]:=List.length_eq_zero_iff.1 (by omega)
  subst this
  refine⟨by intro c h;simp[Thk.zM,Thk.blk] at h,?_⟩
  simp[Thk.zM,Thk.blk,TK.last]
 | succ n ih=>
  intro l pos hl
  rw[K9]
  refine⟨?_,?_⟩
  ·intro c hc
   have:=qa (l.drop (blk false l))
   have e:(zM (l.drop (blk false l))).kind=(zG pos l).kind:=rfl
   rw[e,hc] at this
   exact this
  ·cases hk:(zG pos l).kind.last with
   | true=>simp
   | false=>
    simp only[Bool.false_eq_true,if_false]
    refine ih _ _ ?_
    have hs:=Kl (l.drop (blk false l)) hk
    have e:(zG pos l).size=(zM (l.drop (blk false l))).size:=rfl
    rw[List.length_drop] at hs ⊢
    omega
theorem zV.names {xs:List RE}:∀ (rs:List (z7 × Nat)) (g:List ze),zV xs rs g→rs.map (·.1)=zg g
 | [],[]=>fun _=>rfl
 | x::rs,r::g=>fun ⟨h1,_,h3⟩=>by
  have:=zV.names rs g h3
  simp only[List.map_cons,zg] at this ⊢
  rw[h1,this]
 | [],_::_=>fun h=>h.elim
 | _::_,[]=>fun h=>h.elim
structure RdOk (g:List ze) (S:ST):Prop where
 den:zV S.xs S.rs g
 wx:Wx S
 bd:∀ r ∈ S.rs,r.2<S.xs.length
 len:S.xs.length≤10000
 ne:g≠[]
 le:g.length≤20
 nc:∀ r ∈ g,ncC r.choice≤2001
theorem zcf {l:List UInt8} {g:List ze} (h:Zs l (.ok g)):l.length≤2000∧∃ S',run (TL 0 l) S0 = .ok S'∧RdOk g S':=by
 cases h with
 | read hl hp=>
  obtain⟨S',h1,h2⟩:=zbE hp S0 [] (.inl ⟨rfl,rfl,rfl,by rw[YZ];exact qG _ l 0 (Nat.le_refl _)⟩) (by omega) (by simp)
  rw[YZ] at h1
  have hl2:=zdf l
  rw[YZ] at hl2
  obtain⟨w1,w2⟩:=ziA _ (TL 0 l) (Nat.le_refl _) _ _ Wx.zero h1
  have h3:=ziz _ (TL 0 l) hl2 _ _ h1
  have h4:=hp.len (by omega)
  simp only[List.nil_append] at h2
  refine⟨hl,S',h1,h2,w1,w2,by simp[S0] at h3;omega,h4.1,by omega,fun r hr=>?_⟩
  have:=hp.nc r hr
  rw[YZ] at this
  omega
theorem zcd {l:List UInt8} {x:Nat × Nat} (h:Zs l (.error x)):(2000<l.length∧x=(1,0))∨(l.length≤2000∧run (TL 0 l) S0 = .error x):=by
 cases h with
 | long hl=>exact .inl ⟨hl,rfl⟩
 | read hl hp=>
  have h1:=zbE hp S0 [] (.inl ⟨rfl,rfl,rfl,by rw[YZ];exact qG _ l 0 (Nat.le_refl _)⟩) (by omega) (by simp)
  exact .inr ⟨hl,by rw[← YZ];exact h1⟩
end Go.Proofs.YtiganlkabilblaaGreatDoor
namespace Thk
theorem Wf.tail {t:Tok} {r:List Tok} (h:Wf (t::r)) (hl:t.kind.last=false):Wf r:=by
 have:=h.2;rw[if_neg (by simp[hl])] at this;exact this
theorem zix:∀ (n:Nat) (ts:List Tok),ts.length≤n→Wf ts→∀ S x,run ts S = .error x→x.1≠0:=by
 intro n
 induction n with
 | zero=>
  intro ts hl hw
  have:ts=[]:=List.length_eq_zero_iff.1 (by omega)
  subst this
  exact hw.elim
 | succ n ih=>
  intro ts hl hw S x hr
  cases ts with
  | nil=>exact hw.elim
  | cons t rest=>
   simp at hl
   rw[run.eq_def] at hr
   simp only[] at hr
   cases hk:t.kind with
   | bad=>simp only[hk] at hr;cases hr;simp
   | fin=>
    simp only[hk] at hr
    split at hr
    ·cases hr;simp
    ·cases hr
   | arrow=>simp only[hk] at hr;cases hr;simp
   | sign c=>
    simp only[hk] at hr
    split at hr
    ·cases hr;simp
    ·split at hr
     ·rename_i er hs
      cases hr
      have:=zcK hs
      simp only[]
      omega
     ·rename_i S1 hs
      exact ih rest hl (hw.tail (by rw[hk];rfl)) S1 x hr
   | lit=>
    simp only[hk] at hr
    split at hr
    ·cases hr;simp
    ·exact ih rest hl (hw.tail (by rw[hk];rfl)) _ x hr
   | cls=>
    simp only[hk] at hr
    split at hr
    ·cases hr;simp
    ·exact ih rest hl (hw.tail (by rw[hk];rfl)) _ x hr
   | name=>
    simp only[hk] at hr
    have hw1:=hw.tail (by rw[hk];rfl)
    cases rest with
    | nil=>exact hw1.elim
    | cons m rest'=>
     simp only[] at hr
     simp at hl
     split at hr
     ·rename_i ha
      split at hr
      ·cases hr;simp
      ·split at hr
       ·cases hr;simp
       ·have hm:m.kind.last=false:=by
         cases hmk:m.kind<;>simp[hmk,TK.isArrow] at ha<;>rfl
        exact ih rest' (by omega) (hw1.tail hm) _ x hr
     ·split at hr
      ·cases hr;simp
      ·exact ih (m::rest') (by simp;omega) hw1 _ x hr
end Thk
namespace Go.Proofs.YtiganlkabilblaaGreatDoor
open Thk
theorem zce {l:List UInt8} {x:Nat × Nat} (h:Zs l (.error x)):x.1≠0:=by
 rcases zcd h with ⟨_,rfl⟩ | ⟨_,h1⟩
 ·simp
 ·exact zix _ _ (Nat.le_refl _) (qG _ l 0 (Nat.le_refl _)) _ _ h1
end Go.Proofs.YtiganlkabilblaaGreatDoor
namespace Thk
inductive Nt where
 | nil
 | use (rule from_ to:Nat) (within:Nt)
 | pair (a b:Nt)
def jn:Nt→Nt→Nt
 | .nil,b=>b
 | a,.nil=>a
 | a,b=>.pair a b
abbrev Out:=Option (Nat × Nt)
inductive Ex where
 | P (p:zC)
 | Q (p:zC)
 | I (p:zC) (b:UInt8)
 | T (t:Term)
 | S (s:List Term) (acc:Nt)
 | C (c:List (List Term))
def QZ (i k:Nat):Out→Out
 | none=>none
 | some (e,m)=>if k<e then some (e,.use i k e m) else some (e,.nil)
def Q7 (l:List zR) (c:UInt8):Bool:=l.any fun s=>s.1≤c && c≤s.2
def Qj (inp:z7) (k:Nat) (f:UInt8→Bool):Out:=match inp[k]? with
 | none=>none
 | some c=>if f c then some (k+1,.nil) else none
def Ya (inp:z7) (k:Nat) (b:z7):Out:=if b.isPrefixOf (inp.drop k) then some (k+b.length,.nil) else none
def Kg (k:Nat) (r:Out):Out:=some (r.getD (k,.nil))
def Ja (k:Nat) (w:Bool) (r:Out):Out:=if r.isSome == w then some (k,.nil) else none
end Thk
namespace Go.Proofs.YtiganlkabilblaaGreatDoor
open Thk
inductive Ev (g:List ze) (inp:z7):Ex→Nat→Out→Prop
 | cnil {k}:Ev g inp (.C []) k none
 | chit {s c k x}:Ev g inp (.S s .nil) k (some x)→Ev g inp (.C (s::c)) k (some x)
 | cmiss {s c k r}:Ev g inp (.S s .nil) k none→Ev g inp (.C c) k r→Ev g inp (.C (s::c)) k r
 | snil {acc k}:Ev g inp (.S [] acc) k (some (k,acc))
 | sfail {t s acc k}:Ev g inp (.T t) k none→Ev g inp (.S (t::s) acc) k none
 | sstep {t s acc k e m r}:Ev g inp (.T t) k (some (e,m))→Ev g inp (.S s (jn acc m)) e r→Ev g inp (.S (t::s) acc) k r
 | tplain {p b k r}:Ev g inp (.I p b) k r→Ev g inp (.T (.mk 0 p b)) k r
 | tand {p b k r}:Ev g inp (.I p b) k r→Ev g inp (.T (.mk 38 p b)) k (Ja k true r)
 | tnot {p b k r}:Ev g inp (.I p b) k r→Ev g inp (.T (.mk 33 p b)) k (Ja k false r)
 | iplain {p k r}:Ev g inp (.P p) k r→Ev g inp (.I p 0) k r
 | imaybe {p k r}:Ev g inp (.P p) k r→Ev g inp (.I p 63) k (Kg k r)
 | istar {p k r}:Ev g inp (.Q p) k r→Ev g inp (.I p 42) k (Kg k r)
 | iplus {p k r}:Ev g inp (.Q p) k r→Ev g inp (.I p 43) k r
 | qno {p k}:Ev g inp (.P p) k none→Ev g inp (.Q p) k none
 | qlast {p k e m}:Ev g inp (.P p) k (some (e,m))→Ev g inp (.Q p) e none→Ev g inp (.Q p) k (some (e,m))
 | qmore {p k e m e2 m2}:Ev g inp (.P p) k (some (e,m))→Ev g inp (.Q p) e (some (e2,m2))→Ev g inp (.Q p) k (some (e2,jn m m2))
 | pname {b k r} (h:idx0 (zg g) b<g.length) (hc:(zg g).contains b=true):Ev g inp (.C g[idx0 (zg g) b].choice) k r→Ev g inp (.P (.name b)) k (QZ (idx0 (zg g) b) k r)
 | plit {b k} (h:b.length≤20):Ev g inp (.P (.lit b)) k (Ya inp k b)
 | pcls {l k} (h:l.length≤20):Ev g inp (.P (.cls l)) k (Qj inp k (Q7 l))
 | pany {k}:Ev g inp (.P .any) k (Qj inp k (fun _=>true))
 | pgroup {c k r}:Ev g inp (.C c) k r→Ev g inp (.P (.group c)) k r
mutual
def QU (names:List z7) (E:List Bool):zC→Prop
  | .name b=>names.contains b=true
  | .lit b=>b≠[]∧b.length≤20
  | .cls l=>l.length≤20
  | .group c=>Jh names E c
  | .any=>True
def YT (names:List z7) (E:List Bool):Term→Prop
  | .mk a p b=>(a=0∨a=38∨a=33)∧(b=0∨b=63∨b=42∨b=43)∧QU names E p∧((b=42∨b=43)→Ze (Eb names E) p=false)
def Ym (names:List z7) (E:List Bool):List Term→Prop
  | []=>True
  | t::s=>YT names E t∧Ym names E s
def Jh (names:List z7) (E:List Bool):List (List Term)→Prop
  | []=>True
  | s::c=>Ym names E s∧Jh names E c
 end
def Y8 (names:List z7) (E:List Bool):Ex→Prop
 | .P p=>QU names E p
 | .Q p=>QU names E p
 | .I p _=>QU names E p
 | .T t=>YT names E t
 | .S s _=>Ym names E s
 | .C c=>Jh names E c
def J7 (F:z7→Bool):Ex→Bool
 | .P p=>Ze F p
 | .Q p=>Ze F p
 | .I p b=>(b == 63 || b == 42) || Ze F p
 | .T t=>Zu F t
 | .S s _=>ZH F s
 | .C c=>Zl F c
structure JF (g:List ze) (E:List Bool):Prop where
 good:∀ i (h:i<g.length),Jh (zg g) E g[i].choice
 shut:QP (zg g) g E
 left:Ks (zg g) E g none
 pos : 0<g.length
theorem Ul {inp:z7} {k e:Nat} {f:UInt8→Bool} {m:Nt} (h:Qj inp k f=some (e,m)):e=k+1∧e≤inp.length:=by
 unfold Qj at h
 split at h
 ·cases h
 ·rename_i c hc
  have:=(List.getElem?_eq_some_iff.1 hc).1
  split at h
  ·cases h;exact⟨rfl,by omega⟩
  ·cases h
theorem zbL {inp:z7} {k e:Nat} {b:z7} {m:Nt} (hk:k≤inp.length) (h:Ya inp k b=some (e,m)):e=k+b.length∧e≤inp.length:=by
 unfold Ya at h
 split at h
 ·rename_i hp
  cases h
  have:=(List.isPrefixOf_iff_prefix.1 hp).length_le
  rw[List.length_drop] at this
  exact⟨rfl,by omega⟩
 ·cases h
theorem Ev.le {g:List ze} {inp:z7} {x:Ex} {k:Nat} {r:Out} (h:Ev g inp x k r):k≤inp.length→∀ e m,r=some (e,m)→k≤e∧e≤inp.length:=by
 induction h with
 | cnil=>intro _ e m h;cases h
 | chit _ ih=>intro hk e m h;exact ih hk e m h
 | cmiss _ _ _ ih=>intro hk e m h;exact ih hk e m h
 | snil=>intro hk e m h;cases h;exact⟨Nat.le_refl _,hk⟩
 | sfail=>intro _ e m h;cases h
 | sstep _ _ ih1 ih2=>
  intro hk e m h
  have h1:=ih1 hk _ _ rfl
  have h2:=ih2 h1.2 e m h
  omega
 | tplain _ ih=>exact ih
 | tand _ ih=>
  intro hk e m h
  unfold Ja at h
  split at h<;>cases h
  exact⟨Nat.le_refl _,hk⟩
 | tnot _ ih=>
  intro hk e m h
  unfold Ja at h
  split at h<;>cases h
  exact⟨Nat.le_refl _,hk⟩
 | iplain _ ih=>exact ih
 | @imaybe p k r _ ih=>
  intro hk e m h
  cases r with
  | none=>cases h;exact⟨Nat.le_refl _,hk⟩
  | some x=>exact ih hk e m h
 | @istar p k r _ ih=>
  intro hk e m h
  cases r with
  | none=>cases h;exact⟨Nat.le_refl _,hk⟩
  | some x=>exact ih hk e m h
 | iplus _ ih=>exact ih
 | qno=>intro _ e m h;cases h
 | qlast _ _ ih1 _=>exact ih1
 | qmore _ _ ih1 ih2=>
  intro hk e m h
  have h1:=ih1 hk _ _ rfl
  cases h
  have h2:=ih2 h1.2 _ _ rfl
  omega
 | @pname b k r h hc _ ih=>
  intro hk e m h
  cases r with
  | none=>cases h
  | some x=>
   obtain⟨e',m'⟩:=x
   have:=ih hk e' m' rfl
   unfold QZ at h
   simp only[] at h
   split at h<;>cases h<;>exact this
 | plit=>
  intro hk e m h
  have:=zbL hk h
  omega
 | pcls=>
  intro hk e m h
  have:=Ul h
  omega
 | pany=>
  intro hk e m h
  have:=Ul h
  omega
 | pgroup _ ih=>exact ih
theorem zgF {i k e:Nat} {r:Out} {m:Nt} (h:QZ i k r=some (e,m)):∃ m',r=some (e,m'):=by
 cases r with
 | none=>cases h
 | some x=>
  obtain⟨e',m'⟩:=x
  unfold QZ at h
  simp only[] at h
  split at h<;>cases h<;>exact⟨_,rfl⟩
theorem Ev.empty {g:List ze} {inp:z7} {E:List Bool} (hE:JF g E) {x:Ex} {k:Nat} {r:Out} (h:Ev g inp x k r):k≤inp.length→Y8 (zg g) E x→∀ m,r=some (k,m)→J7 (Eb (zg g) E) x=true:=by
 induction h with
 | cnil=>intro _ _ m h;cases h
 | chit _ ih=>
  intro hk hg m h
  simp only[Y8,Jh] at hg
  have:=ih hk hg.1 m h
  simp only[J7,Zl] at *
  rw[this];rfl
 | cmiss _ _ _ ih=>
  intro hk hg m h
  simp only[Y8,Jh] at hg
  have:=ih hk hg.2 m h
  simp only[J7,Zl] at *
  rw[this];simp
 | snil=>intro _ _ m h;simp[J7,ZH]
 | sfail=>intro _ _ m h;cases h
 | sstep h1 h2 ih1 ih2=>
  intro hk hg m h
  simp only[Y8,Ym] at hg
  have l1:=h1.le hk _ _ rfl
  have l2:=h2.le l1.2 _ _ h
  have e1:_=_:=Nat.le_antisymm l2.1 l1.1
  subst e1
  have a1:=ih1 hk hg.1 _ rfl
  have a2:=ih2 hk hg.2 _ h
  simp only[J7,ZH] at *
  rw[a1,a2];rfl
 | tplain _ ih=>
  intro hk hg m h
  simp only[Y8,YT] at hg
  have:=ih hk hg.2.2.1 m h
  simp only[J7,Zu] at *
  simpa using this
 | tand _ ih=>intro _ _ m h;simp[J7,Zu]
 | tnot _ ih=>intro _ _ m h;simp[J7,Zu]
 | iplain _ ih=>
  intro hk hg m h
  have:=ih hk hg m h
  simp only[J7] at *
  simpa using this
 | imaybe _ ih=>intro _ _ m h;simp[J7]
 | istar _ ih=>intro _ _ m h;simp[J7]
 | iplus _ ih=>
  intro hk hg m h
  have:=ih hk hg m h
  simp only[J7] at *
  simpa using this
 | qno=>intro _ _ m h;cases h
 | qlast _ _ ih1 _=>exact ih1
 | qmore h1 h2 ih1 ih2=>
  intro hk hg m h
  have l1:=h1.le hk _ _ rfl
  have l2:=h2.le l1.2 _ _ rfl
  cases h
  have e1:_=_:=Nat.le_antisymm l2.1 l1.1
  subst e1
  exact ih1 hk hg _ rfl
 | @pname b k r hlt hc _ ih=>
  intro hk hg m h
  obtain⟨m',rfl⟩:=zgF h
  have:=ih hk (hE.good _ hlt) m' rfl
  exact hE.shut _ hlt this
 | @plit b k _=>
  intro hk hg m h
  have:=(zbL hk h).1
  simp only[Y8,QU] at hg
  have:b.length≠0:=fun e=>hg.1 (List.length_eq_zero_iff.1 e)
  omega
 | pcls=>intro hk hg m h;have:=(Ul h).1;omega
 | pany=>intro hk hg m h;have:=(Ul h).1;omega
 | pgroup _ ih=>exact ih
def Tot (g:List ze) (inp:z7) (x:Ex) (k:Nat):Prop:=∃ r,Ev g inp x k r
def Past (g:List ze) (inp:z7) (k:Nat):Prop:=∀ k',k<k'→k'≤inp.length→∀ i (h:i<g.length),Tot g inp (.C g[i].choice) k'
def At (g:List ze) (inp:z7) (l:List z7) (k:Nat):Prop:=∀ b ∈ l,∀ (h:idx0 (zg g) b<g.length),Tot g inp (.C g[idx0 (zg g) b].choice) k
theorem Past.next {g:List ze} {inp:z7} {k k':Nat} (h:Past g inp k) (hk:k≤k'):Past g inp k':=fun j hj hl i hi=>h j (by omega) hl i hi
theorem Past.at_ {g:List ze} {inp:z7} {k k':Nat} (h:Past g inp k) (hk:k<k') (hl:k'≤inp.length) (l:List z7):At g inp l k':=fun _ _ hi=>h k' hk hl _ hi
theorem zaA {g:List ze} {inp:z7} {E:List Bool} (hE:JF g E) {p:zC} (hg:QU (zg g) E p) (he:Ze (Eb (zg g) E) p=false)
  (ih:∀ k,k≤inp.length→At g inp (Zy (Eb (zg g) E) p) k→Past g inp k→Tot g inp (.P p) k) :
  ∀ n k,inp.length - k≤n→k≤inp.length→At g inp (Zy (Eb (zg g) E) p) k→Past g inp k→Tot g inp (.Q p) k
 | n,k,hn,hk,ha,hp=>by
  obtain⟨r,hr⟩:=ih k hk ha hp
  cases r with
  | none=>exact⟨_,.qno hr⟩
  | some x=>
   obtain⟨e,m⟩:=x
   have hle:=hr.le hk _ _ rfl
   have hne:e≠k:=by
    rintro rfl
    have:=hr.empty hE hk hg m rfl
    simp only[J7] at this
    rw[he] at this
    cases this
   cases n with
   | zero=>omega
   | succ n=>
    obtain⟨r2,h2⟩:=zaA hE hg he ih n e (by omega) hle.2 (hp.at_ (by omega) hle.2 _) (hp.next (by omega))
    cases r2 with
    | none=>exact⟨_,.qlast hr h2⟩
    | some y=>exact⟨_,.qmore (e2:=y.1) (m2:=y.2) hr h2⟩
mutual
theorem zji {g:List ze} {inp:z7} {E:List Bool} (hE:JF g E):∀ (p:zC) (k:Nat),QU (zg g) E p→k≤inp.length→At g inp (Zy (Eb (zg g) E) p) k→Past g inp k→Tot g inp (.P p) k
  | .name b,k=>by
    intro hg hk ha hp
    have hl:idx0 (zg g) b<g.length:=by
      have:=YU (names:=zg g) b (by rw[Q8];exact hE.pos)
      rw[Q8] at this;exact this
    obtain⟨r,hr⟩:=ha b (by simp[Zy]) hl
    simp only[QU] at hg
    exact⟨_,.pname hl hg hr⟩
  | .lit b,k=>fun hg _ _ _=>⟨_,.plit (by simp only[QU] at hg;exact hg.2)⟩
  | .cls l,k=>fun hg _ _ _=>⟨_,.pcls (by simp only[QU] at hg;exact hg)⟩
  | .any,k=>fun _ _ _ _=>⟨_,.pany⟩
  | .group c,k=>by
    intro hg hk ha hp
    simp only[QU] at hg
    simp only[Zy] at ha
    obtain⟨r,hr⟩:=V2 hE c k hg hk ha hp
    exact⟨_,.pgroup hr⟩
theorem zjj {g:List ze} {inp:z7} {E:List Bool} (hE:JF g E):∀ (t:Term) (k:Nat),YT (zg g) E t→k≤inp.length→At g inp (JR (Eb (zg g) E) t) k→Past g inp k→Tot g inp (.T t) k
  | .mk a p b,k=>by
    intro hg hk ha hp
    simp only[YT] at hg
    simp only[JR] at ha
    obtain⟨h1,h2,h3,h4⟩:=hg
    have ih:=fun (k:Nat) (hk:k≤inp.length) (ha:At g inp (Zy (Eb (zg g) E) p) k) (hp:Past g inp k)=>zji hE p k h3 hk ha hp
    have hI:Tot g inp (.I p b) k:=by
      rcases h2 with rfl | rfl | rfl | rfl
      · obtain⟨r,hr⟩:=ih k hk ha hp
        exact⟨_,.iplain hr⟩
      · obtain⟨r,hr⟩:=ih k hk ha hp
        exact⟨_,.imaybe hr⟩
      · obtain⟨r,hr⟩:=zaA hE h3 (h4 (.inl rfl)) ih _ k (Nat.le_refl _) hk ha hp
        exact⟨_,.istar hr⟩
      · obtain⟨r,hr⟩:=zaA hE h3 (h4 (.inr rfl)) ih _ k (Nat.le_refl _) hk ha hp
        exact⟨_,.iplus hr⟩
    obtain⟨r,hr⟩:=hI
    rcases h1 with rfl | rfl | rfl
    · exact⟨_,.tplain hr⟩
    · exact⟨_,.tand hr⟩
    · exact⟨_,.tnot hr⟩
theorem zaB {g:List ze} {inp:z7} {E:List Bool} (hE:JF g E):∀ (s:List Term) (acc:Nt) (k:Nat),Ym (zg g) E s→k≤inp.length→At g inp (Q2 (Eb (zg g) E) s) k→Past g inp k→Tot g inp (.S s acc) k
  | [],acc,k=>fun _ _ _ _=>⟨_,.snil⟩
  | t::s,acc,k=>by
    intro hg hk ha hp
    simp only[Ym] at hg
    simp only[Q2] at ha
    obtain⟨r,hr⟩:=zjj hE t k hg.1 hk (fun b hb=>ha b (List.mem_append_left _ hb)) hp
    cases r with
    | none=>exact⟨_,.sfail hr⟩
    | some x=>
      obtain⟨e,m⟩:=x
      have hle:=hr.le hk _ _ rfl
      by_cases hek:e=k
      · subst hek
        have hem:=hr.empty hE hk hg.1 m rfl
        simp only[J7] at hem
        obtain⟨r2,h2⟩:=zaB hE s (jn acc m) e hg.2 hk (fun b hb=>ha b (List.mem_append_right _ (by rw[if_pos hem];exact hb))) hp
        exact⟨_,.sstep hr h2⟩
      · obtain⟨r2,h2⟩:=zaB hE s (jn acc m) e hg.2 hle.2 (hp.at_ (by omega) hle.2 _) (hp.next (by omega))
        exact⟨_,.sstep hr h2⟩
theorem V2 {g:List ze} {inp:z7} {E:List Bool} (hE:JF g E):∀ (c:List (List Term)) (k:Nat),Jh (zg g) E c→k≤inp.length→At g inp (ZC (Eb (zg g) E) c) k→Past g inp k→Tot g inp (.C c) k
  | [],k=>fun _ _ _ _=>⟨_,.cnil⟩
  | s::c,k=>by
    intro hg hk ha hp
    simp only[Jh] at hg
    simp only[ZC] at ha
    obtain⟨r,hr⟩:=zaB hE s .nil k hg.1 hk (fun b hb=>ha b (List.mem_append_left _ hb)) hp
    cases r with
    | some x=>exact⟨_,.chit hr⟩
    | none=>
      obtain⟨r2,h2⟩:=V2 hE c k hg.2 hk (fun b hb=>ha b (List.mem_append_right _ hb)) hp
      exact⟨_,.cmiss hr h2⟩
 end
def cnt (M:Mat) (n i:Nat):Nat:=((List.range n).filter (fun j=>Wm M n i j)).length
theorem qV {α : Type} {f h : α→Bool}:∀ (l:List α),(∀ x ∈ l,f x=true→h x=true)→(∃ x ∈ l,h x=true∧f x=false)→(l.filter f).length<(l.filter h).length
 | [],_,⟨x,hx,_⟩=>by simp at hx
 | a::l,h1,⟨x,hx,h2,h3⟩=>by
  have hle:(l.filter f).length≤(l.filter h).length:=by
   clear h2 h3 hx
   induction l with
   | nil=>simp
   | cons b l ih=>
    have hb:=h1 b (by simp)
    have:=ih (fun x hx=>h1 x (by simp at hx ⊢;rcases hx with h | h;exact .inl h;exact .inr (.inr h)))
    cases hf:f b with
    | true=>rw[List.filter_cons_of_pos (by rw[hf]),List.filter_cons_of_pos (hb hf)];simp;omega
    | false=>
     rw[List.filter_cons_of_neg (by rw[hf];simp)]
     cases hh:h b with
     | true=>rw[List.filter_cons_of_pos (by rw[hh])];simp;omega
     | false=>rw[List.filter_cons_of_neg (by rw[hh];simp)];exact this
  rcases List.mem_cons.1 hx with rfl | hx'
  ·rw[List.filter_cons_of_neg (by rw[h3];simp),List.filter_cons_of_pos h2]
   simp;omega
  ·have ih:=qV l (fun x hx=>h1 x (by simp[hx])) ⟨x,hx',h2,h3⟩
   cases hf:f a with
   | true=>
    rw[List.filter_cons_of_pos (by rw[hf]),List.filter_cons_of_pos (h1 a (by simp) hf)]
    simp;omega
   | false=>
    rw[List.filter_cons_of_neg (by rw[hf];simp)]
    cases hh:h a with
    | true=>rw[List.filter_cons_of_pos (by rw[hh])];simp;omega
    | false=>rw[List.filter_cons_of_neg (by rw[hh];simp)];exact ih
theorem Vu {M:Mat} {n i j:Nat} (hi:∀ i,i<n→Wm M n i i=false) (hj:j<n) (h:M i j=true):cnt M n j<cnt M n i:=by
 refine qV _ ?_ ⟨j,by simpa using hj,Vh M n i j h,hi j hj⟩
 intro x hx hw
 exact Vi M n j i x hj (Vh M n i j h) hw
theorem zjk {g:List ze} {inp:z7} {E:List Bool} (hE:JF g E):∀ n k,inp.length - k≤n→k≤inp.length→∀ i (h:i<g.length),Tot g inp (.C g[i].choice) k:=by
 intro n
 induction n with
 | zero=>
  intro k hn hk
  have hp:Past g inp k:=fun k' h1 h2=>by omega
  suffices H:∀ m i (h:i<g.length),cnt (Za (zg g) E g) g.length i≤m→Tot g inp (.C g[i].choice) k from fun i h=>H _ i h (Nat.le_refl _)
  intro m
  induction m with
  | zero=>
   intro i h hm
   refine V2 hE _ k (hE.good i h) hk ?_ hp
   intro b hb hl
   have hd:Za (zg g) E g i (idx0 (zg g) b)=true:=(KJ h (by rw[Q8];exact hE.pos)).2 (List.mem_map.2 ⟨b,hb,rfl⟩)
   have:=Vu hE.left hl hd
   omega
  | succ m ih=>
   intro i h hm
   refine V2 hE _ k (hE.good i h) hk ?_ hp
   intro b hb hl
   have hd:Za (zg g) E g i (idx0 (zg g) b)=true:=(KJ h (by rw[Q8];exact hE.pos)).2 (List.mem_map.2 ⟨b,hb,rfl⟩)
   have:=Vu hE.left hl hd
   exact ih _ hl (by omega)
 | succ n ihn=>
  intro k hn hk
  have hp:Past g inp k:=fun k' h1 h2 i hi=>ihn k' (by omega) h2 i hi
  suffices H:∀ m i (h:i<g.length),cnt (Za (zg g) E g) g.length i≤m→Tot g inp (.C g[i].choice) k from fun i h=>H _ i h (Nat.le_refl _)
  intro m
  induction m with
  | zero=>
   intro i h hm
   refine V2 hE _ k (hE.good i h) hk ?_ hp
   intro b hb hl
   have hd:Za (zg g) E g i (idx0 (zg g) b)=true:=(KJ h (by rw[Q8];exact hE.pos)).2 (List.mem_map.2 ⟨b,hb,rfl⟩)
   have:=Vu hE.left hl hd
   omega
  | succ m ih=>
   intro i h hm
   refine V2 hE _ k (hE.good i h) hk ?_ hp
   intro b hb hl
   have hd:Za (zg g) E g i (idx0 (zg g) b)=true:=(KJ h (by rw[Q8];exact hE.pos)).2 (List.mem_map.2 ⟨b,hb,rfl⟩)
   have:=Vu hE.left hl hd
   exact ih _ hl (by omega)
theorem qh {g : List ze} {inp : z7} {E : List Bool} (hE : JF g E) : ∃ r, Ev g inp (.C (g[0]'hE.pos).choice) 0 r := zjk hE _ 0 (Nat.le_refl _) (Nat.zero_le _) 0 hE.pos
end Go.Proofs.YtiganlkabilblaaGreatDoor
namespace Thk
mutual
def okP:zC→Prop
  | .lit b=>b≠[]∧b.length≤20
  | .cls l=>l.length≤20
  | .name b=>b.length≤12
  | .any=>True
  | .group c=>okC c
def okT:Term→Prop
  | .mk a p b=>(a=0∨a=38∨a=33)∧(b=0∨b=63∨b=42∨b=43)∧okP p
def okS:List Term→Prop
  | []=>True
  | t::s=>okT t∧okS s
def okC:List (List Term)→Prop
  | []=>True
  | s::c=>okS s∧okC c
 end
def zaf (t:Tok):Prop:=(t.kind = .lit→t.text≠[]∧t.text.length≤20)∧(t.kind = .cls→t.spans.length≤20)∧(t.kind = .name→t.text.length≤12)
def Q4 (ts:List Tok):Prop:=∀ t ∈ ts,zaf t
theorem Q4.tail {ts:List Tok} (h:Q4 ts):Q4 ts.tail:=fun t ht=>h t (List.mem_of_mem_tail ht)
theorem Q4.ahead {ts:List Tok} (h:Q4 ts):Q4 (Z9 ts).2:=by
 unfold Z9
 repeat' split
 all_goals first | exact h | exact h.tail
theorem Q4.behind {ts:List Tok} (h:Q4 ts):Q4 (Zg ts).2:=by
 unfold Zg
 repeat' split
 all_goals first | exact h | exact h.tail
theorem zdM (ts:List Tok):(Z9 ts).1=0∨(Z9 ts).1=38∨(Z9 ts).1=33:=by
 unfold Z9
 repeat' split
 all_goals first | (rename_i h;exact .inr h) | exact .inl rfl
theorem zdZ (ts:List Tok):(Zg ts).1=0∨(Zg ts).1=63∨(Zg ts).1=42∨(Zg ts).1=43:=by
 unfold Zg
 repeat' split
 all_goals first | (rename_i h;exact .inr h) | exact .inl rfl
def OP1 (ts:List Tok) (r:Res zC):Prop:=Q4 ts→∀ p rest,r = .ok p rest→okP p∧Q4 rest
def OP2 (ts:List Tok) (r:Res Term):Prop:=Q4 ts→∀ p rest,r = .ok p rest→okT p∧Q4 rest
def OP3 (ts:List Tok) (r:Res Seq):Prop:=Q4 ts→∀ p rest,r = .ok p rest→okS p∧Q4 rest
def OP4 (ts:List Tok) (r:Res Z5):Prop:=Q4 ts→∀ p rest,r = .ok p rest→okC p∧Q4 rest
theorem zh0 {ts:List Tok} {p:zC} (h:zU (hd ts)=some p):OP1 ts (.ok p ts.tail):=by
 intro hs p' rest e
 cases e
 cases ts with
 | nil=>simp[hd,zU,zB] at h
 | cons t ts=>
  obtain⟨h1,h2,h3⟩:=hs t (by simp)
  refine⟨?_,hs.tail⟩
  simp only[hd,List.headD_cons] at h
  unfold zU at h
  split at h
  ·rename_i hk;cases h;simp only[okP];exact h3 hk
  ·rename_i hk;cases h;simp only[okP];exact h1 hk
  ·rename_i hk;cases h;simp only[okP];exact h2 hk
  ·split at h
   ·cases h;simp[okP]
   ·cases h
  ·cases h
theorem Z8.ok {d:Nat} {ts:List Tok} {c:Z5} {rest:List Tok} (h:Z8 d ts (.ok c rest)) (hs:Q4 ts):okC c∧Q4 rest:=by
 refine (Z8.rec (motive_1:=fun _ ts r _=>OP1 ts r) (motive_2:=fun _ ts r _=>OP2 ts r) (motive_3:=fun _ ts r _=>OP3 ts r) (motive_4:=fun _ ts r _=>OP4 ts r) ?_ ?_ ?_ ?_ ?_ ?_ ?_ ?_ ?_ ?_ ?_ ?_ ?_ ?_ ?_ ?_ h:OP4 ts (.ok c rest)) hs c rest rfl
 ·intro d ts p h;exact zh0 h
 ·intro d ts h h' hs p rest e;cases e
 ·intro ts h hs p rest e;cases e
 ·intro d ts c rest h1 h2 h3 h4 ih hs p rest' e
  cases e
  obtain⟨i1,i2⟩:=ih hs.tail _ _ rfl
  exact⟨by simp only[okP];exact i1,i2.tail⟩
 ·intros;intro hs p rest e;cases e
 ·intros;intro hs p rest e;cases e
 ·intro d ts p rest h ih hs t rest' e
  cases e
  obtain⟨i1,i2⟩:=ih hs.ahead _ _ rfl
  exact⟨by simp only[okT];exact⟨zdM ts,zdZ rest,i1⟩,i2.behind⟩
 ·intros;intro hs p rest e;cases e
 ·intro d ts h hs p rest e
  cases e
  exact⟨by simp[okS],hs⟩
 ·intro d ts t rest s rest' h1 h2 h3 ih1 ih2 hs p r e
  cases e
  obtain⟨i1,i2⟩:=ih1 hs _ _ rfl
  obtain⟨j1,j2⟩:=ih2 i2 _ _ rfl
  exact⟨by simp only[okS];exact⟨i1,j1⟩,j2⟩
 ·intros;intro hs p rest e;cases e
 ·intros;intro hs p rest e;cases e
 ·intro d ts s rest h1 h2 ih hs p r e
  cases e
  obtain⟨i1,i2⟩:=ih hs _ _ rfl
  exact⟨by simp only[okC];exact⟨i1,trivial⟩,i2⟩
 ·intro d ts s rest c rest' h1 h2 h3 ih1 ih2 hs p r e
  cases e
  obtain⟨i1,i2⟩:=ih1 hs _ _ rfl
  obtain⟨j1,j2⟩:=ih2 i2.tail _ _ rfl
  exact⟨by simp only[okC];exact⟨i1,j1⟩,j2⟩
 ·intros;intro hs p rest e;cases e
 ·intros;intro hs p rest e;cases e
theorem zbk {l:z7} {n:Nat} {m:UInt8} {k:Nat} (h:ZX l n m k=true) : 1≤k∧k≤20:=by
 unfold ZX at h
 simp at h
 omega
theorem zj9 (l:z7):zaf (zM l):=by
 have hb:zaf zB:=⟨by simp[zB],by simp[zB],by simp[zB]⟩
 cases l with
 | nil=>exact⟨by simp[zM],by simp[zM],by simp[zM]⟩
 | cons c t=>
  simp only[zM]
  split
  ·unfold Ql
   split
   ·exact hb
   ·refine⟨by simp,by simp,fun _=>?_⟩
    rw[List.length_take];omega
  ·split
   ·exact⟨by simp,by simp,by simp⟩
   ·split
    ·unfold Qv
     split
     ·rename_i h
      have:=zbk h
      exact⟨fun _=>⟨fun e=>by simp only[] at e;rw[e] at this;simp at this,this.2⟩,by simp,by simp⟩
     ·exact hb
    ·split
     ·unfold QB
      split
      ·rename_i h
       exact⟨by simp,fun _=>(zbk h).2,by simp⟩
      ·exact hb
     ·split
      ·exact⟨by simp,by simp,by simp⟩
      ·exact hb
theorem zdc:∀ (f pos:Nat) (l:z7),Q4 (QC f pos l)
 | 0,_,_=>by intro t ht;simp[QC] at ht
 | f+1,pos,l=>by
  intro t ht
  simp only[QC,List.mem_cons] at ht
  rcases ht with rfl | ht
  ·exact zj9 _
  ·split at ht
   ·simp at ht
   ·exact zdc f _ _ t ht
theorem ZV.ok' {n:Nat} {ts:List Tok} {r:ze} {rest:List Tok} (h:ZV n ts (.ok r rest)) (hs:Q4 ts):okC r.choice∧r.name.length≤12∧Q4 rest:=by
 cases h with
 | ok hk _ _ hc=>
  obtain⟨i1,i2⟩:=hc.ok hs.tail.tail
  refine⟨i1,?_,i2⟩
  cases ts with
  | nil=>simp[hd,zB] at hk
  | cons t ts=>simp only[hd,List.headD_cons] at hk ⊢;exact (hs t (by simp)).2.2 hk
theorem ZU.ok' {n:Nat} {ts:List Tok} {g:List ze} (h:ZU n ts (.ok g)) (hs:Q4 ts):∀ r ∈ g,okC r.choice∧r.name.length≤12:=by
 generalize hres:(Except.ok g:Except (Nat × Nat) (List ze))=res at h
 induction h generalizing g with
 | last hr hk=>
  cases hres
  intro r hr'
  simp only[List.mem_singleton] at hr'
  subst hr'
  have:=hr.ok' hs
  exact⟨this.1,this.2.1⟩
 | more hr hk _ ih=>
  cases hres
  intro r hr'
  have h1:=hr.ok' hs
  rcases List.mem_cons.1 hr' with rfl | hr'
  ·exact⟨h1.1,h1.2.1⟩
  ·exact ih h1.2.2 rfl r hr'
 | err hr=>cases hres
 | later _ _ _ _=>cases hres
end Thk
namespace Go.Proofs.YtiganlkabilblaaGreatDoor
open Thk
mutual
theorem zf2 {names:List z7} {E:List Bool}:∀ p:zC,okP p→Zi (zv names) p=false→(∀ b,p = .name b→names.contains b=true)→Zi (zJ (Eb names E)) p=false→QU names E p
  | .name b=>by intro _ _ h _;simp only[QU];exact h b rfl
  | .lit b=>by intro h _ _ _;simp only[okP] at h;simp only[QU];exact h
  | .cls l=>by intro h _ _ _;simp only[okP] at h;simp only[QU];exact h
  | .any=>by intro _ _ _ _;simp[QU]
  | .group c=>by
    intro h h1 _ h2
    simp only[okP] at h
    simp only[Zi] at h1 h2
    simp only[QU]
    exact qZ c h h1 h2
theorem zf3 {names:List z7} {E:List Bool}:∀ t:Term,okT t→ZG (zv names) t=false→ZG (zJ (Eb names E)) t=false→YT names E t
  | .mk a p b=>by
    intro h h1 h2
    obtain⟨f1,f2⟩:=KK h1
    simp only[okT] at h
    simp only[ZG,Bool.or_eq_false_iff] at h2
    simp only[YT]
    refine⟨h.1,h.2.1,zf2 p h.2.2 f1 f2 h2.2,?_⟩
    intro hb
    have:=h2.1
    simp only[zJ,Term.behind,Term.piece] at this
    rcases hb with rfl | rfl<;>simpa using this
theorem zbD {names:List z7} {E:List Bool}:∀ s:List Term,okS s→Zc (zv names) s=false→Zc (zJ (Eb names E)) s=false→Ym names E s
  | []=>by intro _ _ _;simp[Ym]
  | t::s=>by
    intro h h1 h2
    simp only[okS] at h
    simp only[Zc,Bool.or_eq_false_iff] at h1 h2
    simp only[Ym]
    exact⟨zf3 t h.1 h1.1 h2.1,zbD s h.2 h1.2 h2.2⟩
theorem qZ {names:List z7} {E:List Bool}:∀ c:List (List Term),okC c→zx (zv names) c=false→zx (zJ (Eb names E)) c=false→Jh names E c
  | []=>by intro _ _ _;simp[Jh]
  | s::c=>by
    intro h h1 h2
    simp only[okC] at h
    simp only[zx,Bool.or_eq_false_iff] at h1 h2
    simp only[Jh]
    exact⟨zbD s h.1 h1.1 h2.1,qZ c h.2 h1.2 h2.2⟩
 end
theorem Zo.ok' {l:List UInt8} {g:List ze} {E:List Bool} (h:Zo l (.ok (g,E))):∀ r ∈ g,okC r.choice∧r.name.length≤12:=by
 cases h with
 | ok h _=>
  cases h with
  | read hl hg=>exact hg.ok' (zdc _ _ _)
theorem Zo.ends {l:List UInt8} {g:List ze} {E:List Bool} (h:Zo l (.ok (g,E))):JF g E:=by
 have hok:=h.ok'
 cases h with
 | ok hr hl=>
  cases hl with
  | ok h1 h2 h3 h4 h5 h6 h7=>
   refine⟨fun i hi=>qZ _ (hok _ (List.getElem_mem hi)).1 (h2 i hi) (h6 i hi),h4,h7,?_⟩
   cases hr with
   | read hl hg=>exact List.length_pos_iff.2 (hg.len (by omega)).1
end Go.Proofs.YtiganlkabilblaaGreatDoor
namespace Thk
inductive Nd where
 | choice (ks:List Nat)
 | seq (ks:List Nat)
 | ahead (k:Nat) (wanted:Bool)
 | maybe (k:Nat)
 | plus (k:Nat)
 | name (i:Nat)
 | lit (b:z7)
 | cls (l:List zR)
 | any
abbrev NEv:=Nat→Nat→Option Out
def chN (F:NEv):List Nat→Nat→Option Out
 | [],_=>some none
 | j::js,k=>match F j k with
  | none=>none
  | some none=>chN F js k
  | some (some x)=>some (some x)
def sqN (F:NEv):List Nat→Nat→Nt→Option Out
 | [],k,acc=>some (some (k,acc))
 | j::js,k,acc=>match F j k with
  | none=>none
  | some none=>some none
  | some (some x)=>sqN F js x.1 (jn acc x.2)
def plN (F:NEv) (n j k:Nat):Option Out:=match F j k with
 | none=>none
 | some none=>some none
 | some (some x)=>match F n x.1 with
  | none=>none
  | some none=>some (some x)
  | some (some y)=>some (some (y.1,jn x.2 y.2))
def Zx (rules:List Nat) (inp:z7) (F:NEv) (n k:Nat):Nd→Option Out
 | .choice ks=>chN F ks k
 | .seq ks=>sqN F ks k .nil
 | .ahead j w=>(F j k).map (Ja k w)
 | .maybe j=>(F j k).map (Kg k)
 | .plus j=>plN F n j k
 | .name i=>match rules[i]? with
  | none=>none
  | some j=>(F j k).map (QZ i k)
 | .lit b=>some (Ya inp k b)
 | .cls l=>some (Qj inp k (Q7 l))
 | .any=>some (Qj inp k (fun _=>true))
def evN (N:List Nd) (rules:List Nat) (inp:z7):Nat→NEv
 | 0,_,_=>none
 | f+1,n,k=>match N[n]? with
  | none=>none
  | some d=>Zx rules inp (evN N rules inp f) n k d
def LeN (F G:NEv):Prop:=∀ i k v,F i k=some v→G i k=some v
theorem zb9 {F G:NEv} (h:LeN F G):∀ js k v,chN F js k=some v→chN G js k=some v
 | [],k,v,e=>e
 | j::js,k,v,e=>by
  simp only[chN] at e ⊢
  cases hF:F j k with
  | none=>rw[hF] at e;cases e
  | some o=>
   rw[h j k o hF]
   rw[hF] at e
   cases o with
   | none=>exact zb9 h js k v e
   | some x=>exact e
theorem zcU {F G:NEv} (h:LeN F G):∀ js k acc v,sqN F js k acc=some v→sqN G js k acc=some v
 | [],k,acc,v,e=>e
 | j::js,k,acc,v,e=>by
  simp only[sqN] at e ⊢
  cases hF:F j k with
  | none=>rw[hF] at e;cases e
  | some o=>
   rw[h j k o hF]
   rw[hF] at e
   cases o with
   | none=>exact e
   | some x=>exact zcU h js x.1 _ v e
theorem zhg {F G:NEv} (h:LeN F G) {n j k:Nat} {v:Out} (e:plN F n j k=some v):plN G n j k=some v:=by
 unfold plN at e ⊢
 cases hF:F j k with
 | none=>rw[hF] at e;cases e
 | some o=>
  rw[h j k o hF]
  rw[hF] at e
  cases o with
  | none=>exact e
  | some x=>
   simp only[] at e ⊢
   cases hF2:F n x.1 with
   | none=>rw[hF2] at e;cases e
   | some o2=>
    rw[h n x.1 o2 hF2]
    rw[hF2] at e
    exact e
theorem zac {F G:NEv} (h:LeN F G) {j k:Nat} {t:Out→Out} {v:Out} (e:(F j k).map t=some v):(G j k).map t=some v:=by
 cases hF:F j k with
 | none=>rw[hF] at e;cases e
 | some o=>rw[h j k o hF];rw[hF] at e;exact e
theorem ze8 {rules:List Nat} {inp:z7} {F G:NEv} (h:LeN F G) {n k:Nat} {d:Nd} {v:Out} (e:Zx rules inp F n k d=some v):Zx rules inp G n k d=some v:=by
 cases d with
 | choice ks=>exact zb9 h _ _ _ e
 | seq ks=>exact zcU h _ _ _ _ e
 | ahead j w=>exact zac h e
 | maybe j=>exact zac h e
 | plus j=>exact zhg h e
 | name i=>
  simp only[Zx] at e ⊢
  cases hr:rules[i]? with
  | none=>rw[hr] at e;cases e
  | some j=>rw[hr] at e;exact zac h e
 | lit b=>exact e
 | cls l=>exact e
 | any=>exact e
theorem zbv (N:List Nd) (rules:List Nat) (inp:z7):∀ f,LeN (evN N rules inp f) (evN N rules inp (f+1))
 | 0=>by intro i k v h;simp[evN] at h
 | f+1=>by
  intro i k v h
  simp only[evN] at h ⊢
  cases hx:N[i]? with
  | none=>rw[hx] at h;cases h
  | some e=>
   rw[hx] at h
   exact ze8 (zbv N rules inp f) h
theorem YQ {N:List Nd} {rules:List Nat} {inp:z7} {f d:Nat} (hf:f≤d):LeN (evN N rules inp f) (evN N rules inp d):=by
  induction d with
  | zero => have : f = 0 := by omega
            subst this;intro i k v h;exact h
  | succ d ih=>
    by_cases h:f=d+1
    · subst h;intro i k v h;exact h
    · intro i k v hv;exact zbv N rules inp d i k v (ih (by omega) i k v hv)
theorem zbu {N:List Nd} {rules:List Nat} {inp:z7} {f d i k:Nat} {v u:Out} (h1:evN N rules inp f i k=some v) (h2:evN N rules inp d i k=some u):v=u:=by
 have a:=YQ (Nat.le_max_left f d) i k v h1
 have b:=YQ (Nat.le_max_right f d) i k u h2
 rw[a] at b
 exact Option.some.inj b
mutual
def DnP (N:List Nd) (names:List z7) (n:Nat):zC→Prop
  | .name b=>N[n]? = some (.name (Go.Proofs.YtiganlkabilblaaGreatDoor.idx0 names b))
  | .lit b=>N[n]? = some (.lit b)
  | .cls l=>N[n]? = some (.cls l)
  | .any=>N[n]? = some .any
  | .group c=>∃ ks,N[n]? = some (.choice ks)∧DnC N names ks c
def DnT (N:List Nd) (names:List z7) (n:Nat):Term→Prop
  | .mk a p b=>∃ i,(if a=0 then n=i else N[n]? = some (.ahead i (a == 38)))∧(∃ j,(if b=0 then i=j else if b=63 then N[i]? = some (.maybe j) else if b=43 then N[i]? = some (.plus j) else ∃ q,N[i]? = some (.maybe q)∧N[q]? = some (.plus j))∧DnP N names j p)
def DnS (N:List Nd) (names:List z7):List Nat→List Term→Prop
  | ks,[]=>ks=[]
  | ks,t::s=>∃ k ks',ks=k::ks'∧DnT N names k t∧DnS N names ks' s
def DnC (N:List Nd) (names:List z7):List Nat→List (List Term)→Prop
  | qs,[]=>qs=[]
  | qs,s::c=>∃ q qs' ks,qs=q::qs'∧N[q]? = some (.seq ks)∧DnS N names ks s∧DnC N names qs' c
 end
end Thk
namespace Go.Proofs.YtiganlkabilblaaGreatDoor
open Thk
def DnI (N:List Nd) (names:List z7) (i:Nat) (p:zC) (b:UInt8):Prop:=∃ j,(if b=0 then i=j else if b=63 then N[i]? = some (.maybe j) else if b=43 then N[i]? = some (.plus j) else ∃ q,N[i]? = some (.maybe q)∧N[q]? = some (.plus j))∧DnP N names j p
def DnR (N:List Nd) (rules:List Nat) (g:List ze):Prop:=rules.length=g.length∧∀ i (h:i<g.length) (h2:i<rules.length),DnP N (zg g) rules[i] (.group g[i].choice)
def SimN (N:List Nd) (rules:List Nat) (inp:z7) (names:List z7):Ex→Nat→Out→Prop
 | .P p,k,r=>∀ i,DnP N names i p→∃ f,evN N rules inp f i k=some r
 | .Q p,k,r=>∀ q i,N[q]? = some (.plus i)→DnP N names i p→∃ f,evN N rules inp f q k=some r
 | .I p b,k,r=>∀ i,DnI N names i p b→∃ f,evN N rules inp f i k=some r
 | .T t,k,r=>∀ i,DnT N names i t→∃ f,evN N rules inp f i k=some r
 | .S s acc,k,r=>∀ is,DnS N names is s→∃ f,∀ d,f≤d→sqN (evN N rules inp d) is k acc=some r
 | .C c,k,r=>∀ is,DnC N names is c→∃ f,∀ d,f≤d→chN (evN N rules inp d) is k=some r
theorem J8 {N:List Nd} {rules:List Nat} {inp:z7} {i:Nat} {d:Nd} (h:N[i]? = some d) (f k:Nat):evN N rules inp (f+1) i k=Zx rules inp (evN N rules inp f) i k d:=by
 simp only[evN,h]
theorem Ev.simN {g:List ze} {inp:z7} {N:List Nd} {rules:List Nat} (hR:DnR N rules g) {x:Ex} {k:Nat} {r:Out} (h:Ev g inp x k r):SimN N rules inp (zg g) x k r:=by
 induction h with
 | cnil=>
  intro is hd
  simp only[DnC] at hd
  subst hd
  exact⟨0,fun d _=>rfl⟩
 | @chit s c k x _ ih=>
  intro is hd
  simp only[DnC] at hd
  obtain⟨q,qs,ks,rfl,h1,h2,h3⟩:=hd
  obtain⟨f,hf⟩:=ih ks h2
  refine⟨f+1,fun d hd=>?_⟩
  obtain⟨d',rfl⟩:∃ d',d=d'+1:=⟨d - 1,by omega⟩
  simp only[chN]
  rw[J8 h1]
  simp only[Zx]
  rw[hf d' (by omega)]
 | @cmiss s c k r _ _ ih1 ih2=>
  intro is hd
  simp only[DnC] at hd
  obtain⟨q,qs,ks,rfl,h1,h2,h3⟩:=hd
  obtain⟨f,hf⟩:=ih1 ks h2
  obtain⟨f2,hf2⟩:=ih2 qs h3
  refine⟨max f f2+1,fun d hd=>?_⟩
  obtain⟨d',rfl⟩:∃ d',d=d'+1:=⟨d - 1,by omega⟩
  simp only[chN]
  rw[J8 h1]
  simp only[Zx]
  rw[hf d' (by omega)]
  exact hf2 (d'+1) (by omega)
 | snil=>
  intro is hd
  simp only[DnS] at hd
  subst hd
  exact⟨0,fun d _=>rfl⟩
 | @sfail t s acc k _ ih=>
  intro is hd
  simp only[DnS] at hd
  obtain⟨q,qs,rfl,h1,h2⟩:=hd
  obtain⟨f,hf⟩:=ih q h1
  refine⟨f,fun d hd=>?_⟩
  simp only[sqN]
  rw[YQ hd _ _ _ hf]
 | @sstep t s acc k e m r _ _ ih1 ih2=>
  intro is hd
  simp only[DnS] at hd
  obtain⟨q,qs,rfl,h1,h2⟩:=hd
  obtain⟨f,hf⟩:=ih1 q h1
  obtain⟨f2,hf2⟩:=ih2 qs h2
  refine⟨max f f2,fun d hd=>?_⟩
  simp only[sqN]
  rw[YQ (show f≤d by omega) _ _ _ hf]
  exact hf2 d (by omega)
 | @tplain p b k r _ ih=>
  intro i hd
  simp only[DnT] at hd
  obtain⟨i',h1,h2⟩:=hd
  rw[if_pos trivial] at h1
  subst h1
  exact ih i h2
 | @tand p b k r _ ih=>
  intro i hd
  simp only[DnT] at hd
  obtain⟨i',h1,h2⟩:=hd
  rw[if_neg (by decide)] at h1
  obtain⟨f,hf⟩:=ih i' h2
  refine⟨f+1,?_⟩
  rw[J8 h1]
  simp only[Zx]
  rw[hf];rfl
 | @tnot p b k r _ ih=>
  intro i hd
  simp only[DnT] at hd
  obtain⟨i',h1,h2⟩:=hd
  rw[if_neg (by decide)] at h1
  obtain⟨f,hf⟩:=ih i' h2
  refine⟨f+1,?_⟩
  rw[J8 h1]
  simp only[Zx]
  rw[hf];rfl
 | iplain _ ih=>
  intro i hd
  obtain⟨j,h1,h2⟩:=hd
  rw[if_pos rfl] at h1
  subst h1
  exact ih i h2
 | @imaybe p k r _ ih=>
  intro i hd
  obtain⟨j,h1,h2⟩:=hd
  rw[if_neg (by decide),if_pos rfl] at h1
  obtain⟨f,hf⟩:=ih j h2
  refine⟨f+1,?_⟩
  rw[J8 h1]
  simp only[Zx]
  rw[hf];rfl
 | @istar p k r _ ih=>
  intro i hd
  obtain⟨j,h1,h2⟩:=hd
  rw[if_neg (by decide),if_neg (by decide),if_neg (by decide)] at h1
  obtain⟨q,h3,h4⟩:=h1
  obtain⟨f,hf⟩:=ih q j h4 h2
  refine⟨f+1,?_⟩
  rw[J8 h3]
  simp only[Zx]
  rw[hf];rfl
 | @iplus p k r _ ih=>
  intro i hd
  obtain⟨j,h1,h2⟩:=hd
  rw[if_neg (by decide),if_neg (by decide),if_pos rfl] at h1
  exact ih i j h1 h2
 | qno _ ih=>
  intro q i hq hd
  obtain⟨f,hf⟩:=ih i hd
  refine⟨f+1,?_⟩
  rw[J8 hq]
  simp only[Zx,plN]
  rw[hf]
 | @qlast p k e m _ _ ih1 ih2=>
  intro q i hq hd
  obtain⟨f,hf⟩:=ih1 i hd
  obtain⟨f2,hf2⟩:=ih2 q i hq hd
  refine⟨max f f2+1,?_⟩
  rw[J8 hq]
  simp only[Zx,plN]
  rw[YQ (Nat.le_max_left f f2) _ _ _ hf]
  simp only[]
  rw[YQ (Nat.le_max_right f f2) _ _ _ hf2]
 | @qmore p k e m e2 m2 _ _ ih1 ih2=>
  intro q i hq hd
  obtain⟨f,hf⟩:=ih1 i hd
  obtain⟨f2,hf2⟩:=ih2 q i hq hd
  refine⟨max f f2+1,?_⟩
  rw[J8 hq]
  simp only[Zx,plN]
  rw[YQ (Nat.le_max_left f f2) _ _ _ hf]
  simp only[]
  rw[YQ (Nat.le_max_right f f2) _ _ _ hf2]
 | @pname b k r hlt hc _ ih=>
  intro i hd
  simp only[DnP] at hd
  have hl2:idx0 (zg g) b<rules.length:=by rw[hR.1];exact hlt
  have hb:=hR.2 _ hlt hl2
  simp only[DnP] at hb
  obtain⟨qs,hq1,hq2⟩:=hb
  obtain⟨f,hf⟩:=ih qs hq2
  refine⟨f+1+1,?_⟩
  rw[J8 hd]
  simp only[Zx]
  rw[List.getElem?_eq_getElem hl2]
  simp only[]
  rw[J8 hq1]
  simp only[Zx]
  rw[hf f (Nat.le_refl _)];rfl
 | @plit b k hb=>
  intro i hd
  simp only[DnP] at hd
  exact⟨1,by rw[J8 hd];rfl⟩
 | @pcls l k hb=>
  intro i hd
  simp only[DnP] at hd
  exact⟨1,by rw[J8 hd];rfl⟩
 | @pany k=>
  intro i hd
  simp only[DnP] at hd
  exact⟨1,by rw[J8 hd];rfl⟩
 | @pgroup c k r _ ih=>
  intro i hd
  simp only[DnP] at hd
  obtain⟨qs,h1,h2⟩:=hd
  obtain⟨f,hf⟩:=ih qs h2
  refine⟨f+1,?_⟩
  rw[J8 h1]
  exact hf f (Nat.le_refl _)
end Go.Proofs.YtiganlkabilblaaGreatDoor
