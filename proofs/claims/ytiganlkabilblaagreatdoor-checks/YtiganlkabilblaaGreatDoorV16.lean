import Derived.Test.YtiganlkabilblaaGreatDoorV06
import Derived.Test.YtiganlkabilblaaGreatDoorV13
import Derived.Test.YtiganlkabilblaaGreatDoorV00
import Derived.Test.YtiganlkabilblaaGreatDoorV08
set_option linter.all false
set_option maxHeartbeats 64000000
set_option maxRecDepth 100000
namespace Go.Proofs.YtiganlkabilblaaGreatDoor
open Tryz
open Tryz renaming prog->P
open Option renaming some->S,none->N
open Value renaming int->I
open IntKind renaming i64->J
theorem Vh(M:Mat):∀(m i j:Nat),M i j=true->Wm M m i j=true
 |0,_,_,h=>h
 |m+1,i,j,h=>by simp only[Wm];rw[Vh M m i j h];rfl
theorem Vi(M:Mat):∀(m k i j:Nat),k<m->Wm M m i k=true->Wm M m k j=true->Wm M m i j=true
 |0,_,_,_,h,_,_=>by omega
 |m+1,k,i,j,g,a,b=>by
  simp only[Wm,Bool.or_eq_true,Bool.and_eq_true]at a b|-;rcases Nat.lt_or_ge k m with c|c
  ·rcases a with a|⟨a,e⟩<;>rcases b with b|⟨b,d⟩;·exact .inl (Vi M m k i j c a b)
   ·exact .inr ⟨Vi M m k i m c a b,d⟩
   ·exact .inr ⟨a,Vi M m k m j c e b⟩
   ·exact .inr ⟨a,d⟩
  ·have f:k=m:=by omega
   subst f;right;constructor;·rcases a with a|⟨a,_⟩<;>exact a
   ·rcases b with b|⟨_,b⟩<;>exact b
theorem zdJ(M:Mat)(n k i j:Nat)(c:k<n)(a:Wm M n i k=true)(b:M k j=true):Wm M n i j=true:=Vi M n k i j c a (Vh M n k j b)
theorem Ua(M:Mat)(C:Nat->Prop)(a:∀j k,C j->M j k=true->C k):∀(m i j:Nat),(∀k,M i k=true->C k)->Wm M m i j=true->C j
 |0,i,j,b,h=>b j h
 |m+1,i,j,b,h=>by
  simp only[Wm,Bool.or_eq_true,Bool.and_eq_true]at h;rcases h with h|⟨c,d⟩;·exact Ua M C a m i j b h
  ·have f:=Ua M C a m i m b c;exact Ua M C a m m j (λk e=>a m k f e) d
theorem QQ.same{a:List z7}{g:List ze}{E F:List Bool}(d:QP a g E)(e:QQ a g E)(hF:QP a g F)(f:QQ a g F)(i:Nat):E.getD i false=F.getD i false:=by
 cases b:E.getD i false with
 |true=>exact(e F hF i b).symm
 |false=>
  cases c:F.getD i false with
  |false=>rfl|true=>have:=f E d i c;rw[b]at this;cases this
def Z3(xs:List RE)(names:List z7)(bodies:List Nat)(l:List Bool)(i:Nat):Bool:=
 match xs[i]? with
 |none=>false
 |some e=>
  if e.kind=1\/e.kind=2\/e.kind=3 then false
  else if e.kind=4 then names.contains e.text&&l.getD (bodies.getD (names.idxOf e.text) 0) false
  else if e.kind=5 then e.parts.all λk=>l.getD k false
  else if e.kind=6 then e.parts.any λk=>l.getD k false
  else if e.kind=9 then l.getD (e.parts.headD 0) false
  else true
def YK(c:List RE)(b:List z7)(a:List Nat)(l:List Bool):Prop:=∀i,Z3 c b a l i=true->l.getD i false=true
def Eof(a:List Nat)(l:List Bool):List Bool:=a.map λk=>l.getD k false
theorem qq(a:List Nat)(l:List Bool)(i:Nat)(h:i<a.length):(Eof a l).getD i false=l.getD (a.getD i 0) false:=by simp[Eof,h]
theorem zds{a:List z7}{c:List Nat}{l:List Bool}{b:z7}(d:a.contains b=true)(e:c.length=a.length):Eb a (Eof c l) b=l.getD (c.getD (a.idxOf b) 0) false:=by unfold Eb idx0;rw[if_pos d];exact qq _ _ _ (by rw[e];exact List.idxOf_lt_length_iff.2 (by simpa using d))
mutual
theorem Un{xs:List RE}{names:List z7}{bodies:List Nat}{l:List Bool}(hc:YK xs names bodies l)(hl:bodies.length=names.length){k:Nat}:∀p:zC,zw xs k p->Zi (zv names) p=false->(∀b,p=.name b->names.contains b=true)->Ze (Eb names (Eof bodies l)) p=true->l.getD k false=true
  | .name b=>by
    intro h _ hb he
    simp only[zw]at h
    simp only[Ze]at he
    have hn:=hb b rfl
    rw[zds hn hl]at he
    refine hc k ?_
    simp only[Z3,h]
    simp at hn he|-
    exact⟨hn,he⟩
  | .lit b=>by intro _ _ _ he;simp[Ze]at he
  | .cls b=>by intro _ _ _ he;simp[Ze]at he
  | .any=>by intro _ _ _ he;simp[Ze]at he
  | .group c=>by
    intro h hu _ he
    simp only[zw]at h
    obtain⟨qs,h1,h2⟩:=h
    simp only[Zi]at hu
    simp only[Ze]at he
    refine hc k ?_
    simp only[Z3,h1]
    simpa using zbe hc hl c h2 hu he
theorem zbg{xs:List RE}{names:List z7}{bodies:List Nat}{l:List Bool}(hc:YK xs names bodies l)(hl:bodies.length=names.length){k:Nat}:∀t:Term,Zw xs k t->ZG (zv names) t=false->Zu (Eb names (Eof bodies l)) t=true->l.getD k false=true
  | .mk a p b=>by
    intro h hu he
    simp only[Zw]at h
    obtain⟨i,j,h1,h2,h3,h4,h5⟩:=h
    simp only[ZG,Bool.or_eq_false_iff]at hu
    have hnm:∀b',p=.name b'->names.contains b'=true:=by
      intro b' hp
      subst hp
      have:=hu.1
      simpa[zv,Term.piece]using this
    simp only[Zu,Bool.or_eq_true]at he
    by_cases ha:a=0
    · rw[if_pos ha]at h1
      subst h1
      subst ha
      by_cases hb:b=0
      · rw[if_pos hb]at h2
        subst h2;subst hb
        refine Un hc hl p h3 hu.2 hnm ?_
        simpa using he
      · rw[if_neg hb]at h2
        refine hc k ?_
        rcases h4 with rfl|rfl|rfl|rfl
        · exact absurd rfl hb
        · simp[Z3,h2,zy,zE]
        · simp[Z3,h2,zy,zE]
        · have hj:l.getD j false=true:=Un hc hl p h3 hu.2 hnm (by simpa using he)
          simp only[Z3,h2,zy,zE]
          simpa using hj
    · rw[if_neg ha]at h1
      refine hc k ?_
      rcases h5 with rfl|rfl|rfl
      · exact absurd rfl ha
      · simp[Z3,h1,zy,zE]
      · simp[Z3,h1,zy,zE]
theorem zbf{xs:List RE}{names:List z7}{bodies:List Nat}{l:List Bool}(hc:YK xs names bodies l)(hl:bodies.length=names.length):∀{ks:List Nat} (s:List Term),Z7 xs ks s->Zc (zv names) s=false->ZH (Eb names (Eof bodies l)) s=true->ks.all (λk=>l.getD k false)=true
  |ks,[]=>by
    intro h _ _
    simp only[Z7]at h
    subst h;rfl
  |ks,t::s=>by
    intro h hu he
    simp only[Z7]at h
    obtain⟨k,ks',rfl,h1,h2⟩:=h
    simp only[Zc,Bool.or_eq_false_iff]at hu
    simp only[ZH,Bool.and_eq_true]at he
    rw[List.all_cons,zbg hc hl t h1 hu.1 he.1,zbf hc hl s h2 hu.2 he.2];rfl
theorem zbe{xs:List RE}{names:List z7}{bodies:List Nat}{l:List Bool}(hc:YK xs names bodies l)(hl:bodies.length=names.length):∀{qs:List Nat} (c:List (List Term)),zZ xs qs c->zx (zv names) c=false->Zl (Eb names (Eof bodies l)) c=true->qs.any (λk=>l.getD k false)=true
  |qs,[]=>by intro _ _ he;simp[Zl]at he
  |qs,s::c=>by
    intro h hu he
    simp only[zZ]at h
    obtain⟨q,qs',ks,rfl,h1,h2,h3⟩:=h
    simp only[zx,Bool.or_eq_false_iff]at hu
    simp only[Zl,Bool.or_eq_true]at he
    rw[List.any_cons]
    rcases he with he|he
    · have:=zbf hc hl s h2 hu.1 he
      rw[hc q (by simp only[Z3,h1];simpa using this)];rfl
    · rw[zbe hc hl c h3 hu.2 he];simp
 end
def Yr(b:List RE)(a:List z7)(g:List ze)(l:List Bool):Prop:=∀F,QP a g F->∀k,l.getD k false=true->(∀p,zw b k p->Ze (Eb a F) p=true)/\(∀t,Zw b k t->Zu (Eb a F) t=true)/\(∀c s,b[k]?=S ⟨5,[],[],0,c⟩->Z7 b c s->ZH (Eb a F) s=true)
theorem zV.get{b:List RE}:∀(a:List (z7×Nat)) (g:List ze),zV b a g->a.length=g.length/\∀i (h:i<g.length),(a.map (·.1)).getD i []=g[i].name/\zw b ((a.map (·.2)).getD i 0) (.group g[i].choice)
 |[],[]=>λ_=>⟨rfl,λi h=>by simp at h⟩
 |x::a,r::g=>λ⟨c,d,f⟩=>by
  obtain⟨e,j⟩:=zV.get a g f;refine⟨by simp[e],λi h=> ?_⟩;cases i with
  |zero=>exact⟨c,d⟩|succ i=>exact j i (by simpa using h)
 |[],_::_=>λh=>h.elim
 |_::_,[]=>λh=>h.elim
theorem zbp{d:List RE}{F:z7->Bool}{l:List Bool}(c:∀k,l.getD k false=true->∀t,Zw d k t->Zu F t=true):∀{a:List Nat} (s:List Term),Z7 d a s->a.all (λk=>l.getD k false)=true->ZH F s=true
 |a,[]=>λ_ _=>by simp[ZH]
 |a,t::s=>by intro h b;simp only[Z7]at h;obtain⟨k,g,rfl,e,f⟩:=h;rw[List.all_cons,Bool.and_eq_true]at b;simp only[ZH,c k b.1 t e,zbp c s f b.2,Bool.and_self]
theorem zbo{e:List RE}{F:z7->Bool}{l:List Bool}(f:∀k,l.getD k false=true->∀b s,e[k]?=S ⟨5,[],[],0,b⟩->Z7 e b s->ZH F s=true):∀{d:List Nat} (c:List (List Term)),zZ e d c->d.any (λk=>l.getD k false)=true->Zl F c=true
 |d,[]=>by intro h a;simp only[zZ]at h;subst h;simp at a
 |d,s::c=>by
  intro h a;simp only[zZ]at h;obtain⟨q,m,b,rfl,g,i,j⟩:=h;rw[List.any_cons,Bool.or_eq_true]at a;simp only[Zl,Bool.or_eq_true];rcases a with a|a;·exact .inl (f q a b s g i)
  ·exact .inr (zbo f c j a)
theorem Yr.step{u:List RE}{o:List (z7×Nat)}{g:List ze}{l:List Bool}{i:Nat}(E:zV u o g)(h:Yr u (o.map (·.1)) g l)(d:Z3 u (o.map (·.1)) (o.map (·.2)) l i=true):Yr u (o.map (·.1)) g (l.set i true):=by
 intro F hF k t;obtain⟨J,G⟩:=zV.get o g E;by_cases z:k=i
 ·subst z;have x:∀p,zw u k p->Ze (Eb (o.map (·.1)) F) p=true:=by
   intro p m;cases p with
   |name b=>
    simp only[zw]at m;simp only[Z3,m]at d;simp only[Nat.reduceEqDiff,or_self,if_false,if_true,Bool.and_eq_true]at d;obtain⟨A,r⟩:=d;have y:(o.map (·.1)).idxOf b<g.length:=by rw[<-J, <-List.length_map (f:=(·.1))];exact List.idxOf_lt_length_iff.2 (by simpa using A)
    have q:=(h F hF _ r).1 _ (G _ y).2;simp only[Ze]at q;have n:=hF _ y q;simp only[Ze];unfold Eb idx0;rw[if_pos A];exact n
   |lit b=>simp only[zw]at m;simp[Z3,m]at d|cls b=>simp only[zw]at m;simp[Z3,m]at d|any=>simp only[zw]at m;simp[Z3,m]at d|group c=>simp only[zw]at m;obtain⟨R,q,n⟩:=m;simp only[Z3,q]at d;simp only[Nat.reduceEqDiff,or_self,if_false,if_true]at d;simp only[Ze];exact zbo (λk t=>(h F hF k t).2.2) c n d
  refine⟨x,?_,?_⟩
  ·rintro⟨a,p,b⟩ B;simp only[Zw]at B;obtain⟨N,j,q,n,w,D,M⟩:=B;by_cases v:a=0
   ·rw[if_pos v]at q;subst q;subst v;by_cases r:b=0;·rw[if_pos r]at n;subst n;subst r;simp[Zu,x p w]
    ·rw[if_neg r]at n;rcases D with rfl|rfl|rfl|rfl;·exact absurd rfl r
     ·simp[Zu]
     ·simp[Zu]
     ·have H:l.getD j false=true:=by simpa[Z3,n,zy,zE]using d
      simp[Zu,(h F hF j H).1 p w]
   ·simp[Zu,v]
  ·intro O s L K;simp only[Z3,L]at d;simp only[Nat.reduceEqDiff,or_self,if_false,if_true]at d;exact zbp (λk t=>(h F hF k t).2.1) s K d
 ·refine h F hF k ?_;rw[List.getD_eq_getElem?_getD,List.getElem?_set,if_neg (λe=>z e.symm)]at t;rw[List.getD_eq_getElem?_getD];exact t
theorem Yr.none{c:List RE}{b:List z7}{g:List ze}(n:Nat):Yr c b g (List.replicate n false):=by intro F _ k a;rw[List.getD_eq_getElem?_getD,List.getElem?_replicate]at a;split at a<;>cases a
theorem zfK{f:List RE}{a:List (z7×Nat)}{g:List ze}{l:List Bool}(k:zV f a g)(n:YK f (a.map (·.1)) (a.map (·.2)) l)(p:Yr f (a.map (·.1)) g l)(q:∀i (h:i<g.length),zx (zv (a.map (·.1))) g[i].choice=false):QP (a.map (·.1)) g (Eof (a.map (·.2)) l)/\QQ (a.map (·.1)) g (Eof (a.map (·.2)) l)/\(Eof (a.map (·.2)) l).length=g.length:=by
 obtain⟨d,j⟩:=zV.get a g k;refine⟨?_,?_,by simp[Eof,d]⟩;·intro i c o;rw[qq _ _ _ (by simp[d,c])];exact Un n (by simp) _ (j i c).2 (by simp only[Zi];exact q i c) (by intro b m;cases m) (by simp only[Ze];exact o)
 ·intro F hF i c;by_cases e:i<g.length;·rw[qq _ _ _ (by simp[d,e])]at c;have:=(p F hF _ c).1 _ (j i e).2;simp only[Ze]at this;exact hF i e this
  ·exfalso;rw[List.getD_eq_getElem?_getD,List.getElem?_eq_none (by simp[Eof,d];omega)]at c;cases c
def RE.Fit(n:Nat)(e:RE):Prop:=(∀p∈e.parts,p<n)/\(6<e.kind->∃p,e.parts=[p])/\e.rule=0
theorem RE.Fit.mono{n m:Nat}{e:RE}(h:e.Fit n)(a:n<=m):e.Fit m:=⟨λp b=>Nat.lt_of_lt_of_le (h.1 p b) a,h.2⟩
structure Wx(S:ST):Prop where
 ex:∀e∈S.xs,e.Fit S.xs.length
 os:∀o∈S.os,(∀k∈o.terms,k<S.xs.length)/\∀k∈o.seqs,k<S.xs.length
 rs:∀r∈S.rs.dropLast,r.2<S.xs.length
theorem Wx.zero:Wx S0:=⟨by simp[S0],by simp[S0],by simp[S0]⟩
theorem Wx.top{S:ST}(h:Wx S):(∀k∈S.top.terms,k<S.xs.length)/\∀k∈S.top.seqs,k<S.xs.length:=by
 by_cases a:S.os=[];·simp[ST.top,a]
 ·obtain⟨d,o,b,c⟩:=JX a;rw[c];exact h.os o (by rw[b];simp)
theorem Wx.add{S:ST}(h:Wx S){e:RE}(d:e.Fit (S.xs.length+1)):Wx (S.add e):=by
 have c:(S.add e).xs.length=S.xs.length+1:=by simp[ST.add]
 refine⟨?_,?_,?_⟩
 ·rw[c];intro x a;rcases List.mem_append.1 a with a|a;·exact(h.ex x a).mono (by omega)
  ·simp only[List.mem_singleton]at a;subst a;exact d
 ·rw[c];intro o f;have:=h.os o f;exact⟨λk b=>by have:=this.1 k b;omega,λk b=>by have:=this.2 k b;omega⟩
 ·rw[c];intro r g;have:=h.rs r g;omega
theorem Wx.setTop{S:ST}(h:Wx S){o:OP}(b:∀k∈o.terms,k<S.xs.length)(c:∀k∈o.seqs,k<S.xs.length):Wx (S.setTop o):=by
 refine⟨h.ex,?_,h.rs⟩;intro x a;rcases List.mem_append.1 a with a|a;·exact h.os x (List.dropLast_subset _ a)
 ·simp only[List.mem_singleton]at a;subst a;exact⟨b,c⟩
theorem Wx.may{S:ST}(h:Wx S)(m:Bool):Wx {S with may:=m}:=⟨h.ex,h.os,h.rs⟩
theorem Wx.sgn{S:ST}(h:Wx S)(m:z7):Wx {S with sign:=m}:=⟨h.ex,h.os,h.rs⟩
theorem Wx.push{S:ST}(h:Wx S){k:Nat}(b:k<S.xs.length):Wx (S.push k):=by
 refine Wx.may (h.setTop (o:={S.top with terms:=S.top.terms++[k]}) ?_ h.top.2) true;intro x a;rcases List.mem_append.1 a with a|a;·exact h.top.1 x a
 ·simp only[List.mem_singleton]at a;subst a;exact b
theorem zaD{n k e:Nat}(h:e<n):(zy k e).Fit n:=⟨by intro p a;simp[zy]at a;omega,λ_=>⟨e,rfl⟩,rfl⟩
theorem Wx.term{S:ST}(h:Wx S){k:Nat}(a:k<S.xs.length)(b:z7):Wx (S.term k b):=by
 unfold ST.term;split;·exact h.push a
 ·exact(h.add (zaD (by omega))).push (by simp[ST.add])
theorem Wx.lay{S:ST}(h:Wx S){e:RE}(a:e.Fit (S.xs.length+1)):Wx (S.lay e):=by unfold ST.lay;exact Wx.term ((h.sgn []).add a) (by simp[ST.add]) _
theorem qS(t:Tok)(n:Nat):(Zb t).Fit n:=by unfold Zb RE.Fit;split<;>simp
theorem Wx.behind{S:ST}(h:Wx S)(b:z7):Wx (S.behind b):=by
 unfold ST.behind;simp only[];split
 ·rename_i c;by_cases i:S.top.terms.getLastD 0<S.xs.length
  ·have f:S.xs.getD (S.top.terms.getLastD 0) RE.z=S.xs[S.top.terms.getLastD 0]:=by rw[List.getD_eq_getElem?_getD,List.getElem?_eq_getElem i];rfl
   rw[f]at c|-;have e:=h.ex _ (List.getElem_mem i);obtain⟨p,m⟩:=e.2.1 (by omega);have u:=e.1 p (by rw[m];simp);refine⟨?_,?_,?_⟩
   ·simp only[List.length_set,List.length_append,List.length_cons,List.length_nil];intro y d;rcases List.mem_or_eq_of_mem_set d with d|d
    ·rcases List.mem_append.1 d with d|d;·exact(h.ex y d).mono (by omega)
     ·simp only[List.mem_singleton]at d;subst d;exact zaD (by rw[m];simp;omega)
    ·subst d;exact⟨by intro q s;simp at s;omega,λ_=>⟨_,rfl⟩,e.2.2⟩
   ·simp only[List.length_set,List.length_append,List.length_cons,List.length_nil];intro o n;have:=h.os o n;exact⟨λk c=>by have:=this.1 k c;omega,λk c=>by have:=this.2 k c;omega⟩
   ·simp only[List.length_set,List.length_append,List.length_cons,List.length_nil];intro r t;have:=h.rs r t;omega
  ·have f:S.xs.getD (S.top.terms.getLastD 0) RE.z=RE.z:=by rw[List.getD_eq_getElem?_getD,List.getElem?_eq_none (by omega)];rfl
   rw[f]at c;simp[RE.z]at c
 ·refine Wx.may (S:=(S.add (zy (zE b) (S.top.terms.getLastD 0))).setTop {S.top with terms:=S.top.terms.dropLast++[S.xs.length]}) ((h.add (zaD ?_)).setTop ?_ ?_) false
  ·by_cases j:S.top.terms=[];·rw[j];simp
   ·obtain⟨l,a,g⟩:∃l a,S.top.terms=l++[a]:=⟨_,_,(List.dropLast_concat_getLast j).symm⟩;have:=h.top.1 a (by rw[g];simp);rw[g,List.getLastD_concat];omega
  ·intro k c;rcases List.mem_append.1 c with c|c;·have:=h.top.1 k (List.dropLast_subset _ c);simp[ST.add];omega
   ·simp only[List.mem_singleton]at c;subst c;simp[ST.add]
  ·intro k c;have:=h.top.2 k c;simp[ST.add];omega
theorem Wx.slash{S:ST}(h:Wx S):Wx S.slash:=by
 unfold ST.slash;refine(h.add (e:=⟨5,[],[],0,S.top.terms⟩) ⟨λp b=>by have:=h.top.1 p b;omega,by simp,rfl⟩).setTop (by simp) ?_;intro k a;rcases List.mem_append.1 a with a|a;·have:=h.top.2 k a;simp[ST.add];omega
 ·simp only[List.mem_singleton]at a;subst a;simp[ST.add]
theorem Wx.less{S:ST}(h:Wx S){os:List OP}(d:∀o∈os,o∈S.os\/(o.terms=[]/\o.seqs=[])):Wx {S with os:=os}:=by
 refine⟨h.ex,?_,h.rs⟩;intro o b;rcases d o b with a|⟨a,c⟩;·exact h.os o a
 ·rw[a,c];simp
theorem zcL(S:ST):S.slash.xs.length=S.xs.length+1:=by simp[ST.slash,ST.setTop,ST.add]
theorem Wx.closed{S:ST}(h:Wx S):Wx S.closed:=by
 unfold ST.closed;refine Wx.add (h.slash.less (os:=S.os.dropLast) ?_) ⟨?_,by simp,rfl⟩;·intro o b;left;show o∈S.os.dropLast++_;exact List.mem_append_left _ b
 ·simp only[zcL];intro p a;rcases List.mem_append.1 a with a|a;·have:=h.top.2 p a;omega
  ·simp only[List.mem_singleton]at a;omega
theorem Vt(S:ST):S.closed.xs.length=S.xs.length+2:=by simp[ST.closed,ST.slash,ST.setTop,ST.add]
theorem Wx.rule{S:ST}(h:Wx S):Wx S.rule/\∀r∈S.rule.rs,r.2<S.rule.xs.length:=by
 unfold ST.rule;split;·rename_i a;exact⟨h,by rw[a];simp⟩
 ·have b:=h.closed;refine⟨⟨b.ex,b.os,?_⟩,?_⟩;·simp only[List.dropLast_concat,Vt];intro r a;have:=h.rs r a;omega
  ·simp only[Vt];intro r a;rcases List.mem_append.1 a with a|a;·have:=h.rs r a;omega
   ·simp only[List.mem_singleton]at a;subst a;simp
theorem Wx.begin{S:ST}(h:Wx S)(b:z7):Wx (S.begin b):=by
 obtain⟨c,d⟩:=h.rule;refine⟨c.ex,?_,?_⟩
 ·intro o a;rcases List.mem_append.1 a with a|a;·exact c.os o a
  ·simp only[List.mem_singleton]at a;subst a;simp
 ·simp only[ST.begin,List.dropLast_concat];exact d
theorem Wx.signs{S d:ST}(h:Wx S){c:UInt8}(a:S.signs c=.ok d):Wx d:=by
 unfold ST.signs at a;repeat' split at a
 all_goals first|cases a;done|(cases a;exact h.slash.may false)|(cases a;exact⟨h.ex,h.os,h.rs⟩)|(cases a;exact h.behind _)|(cases a;refine⟨h.ex,?_,h.rs⟩;intro o b;rcases List.mem_append.1 b with b|b;exact h.os o b;simp only[List.mem_singleton]at b;subst b;simp)|(cases a;exact h.closed.term (by rw[Vt];omega) _)|(cases a;exact h.lay ⟨by simp,by simp,rfl⟩)
theorem ziA:∀(n:Nat) (f:List Tok),f.length<=n->∀S b,Wx S->run f S=.ok b->Wx b/\∀r∈b.rs,r.2<b.xs.length:=by
 intro n;induction n with
 |zero=>intro f e S b _ a;have:f=[]:=List.length_eq_zero_iff.1 (by omega);subst this;simp[run]at a
 |succ n g=>
  intro f e S b h a;cases f with
  |nil=>simp[run]at a
  |cons t i=>
   simp at e;rw[run.eq_def]at a;simp only[]at a;cases d:t.kind with
   |bad=>simp only[d]at a;cases a
   |fin=>
    simp only[d]at a;split at a;·cases a
    ·cases a;exact h.rule
   |arrow=>simp only[d]at a;cases a
   |sign c=>
    simp only[d]at a;split at a;·cases a
    ·split at a;·cases a
     ·rename_i k l;exact g i e k b (h.signs l) a
   |lit=>
    simp only[d]at a;split at a;·cases a
    ·exact g i e _ b (h.lay (qS _ _)) a
   |cls=>
    simp only[d]at a;split at a;·cases a
    ·exact g i e _ b (h.lay (qS _ _)) a
   |name=>
    simp only[d]at a;cases i with
    |nil=>simp at a
    |cons m j=>
     simp only[]at a;simp at e;split at a
     ·split at a;·cases a
      ·split at a;·cases a
       ·exact g j (by omega) _ b (h.begin _) a
     ·split at a;·cases a
      ·exact g (m::j) (by simp;omega) _ b (h.lay (qS _ _)) a
def Qo{β:Type}(R:Nat->β->Prop):List Nat->List β->Prop
 |[],[]=>True
 |k::c,b::a=>R k b/\Qo R c a
 |_,_=>False
theorem Qo.len{β:Type}{R:Nat->β->Prop}:∀{b:List Nat} {a:List β},Qo R b a->a.length=b.length
 |[],[],_=>rfl
 |_::_,_::_,h=>by simp[Qo.len h.2]
 |[],_::_,h=>h.elim
 |_::_,[],h=>h.elim
theorem Qo.get{β:Type}{R:Nat->β->Prop}:∀{c:List Nat} {b:List β},Qo R c b->∀i (a:i<c.length) (d:i<b.length),R c[i] b[i]
 |[],[],_,i,a,_=>by simp at a
 |_::_,_::_,h,0,_,_=>h.1
 |_::_,_::_,h,i+1,a,d=>Qo.get h.2 i (by simpa using a) (by simpa using d)
 |[],_::_,h,_,_,_=>h.elim
 |_::_,[],h,_,_,_=>h.elim
def Qk(a:List z7)(l:List Bool)(u:Bool)(e:RE):Bool:=(u&&e.kind==4&& !a.contains e.text)||(!u&&(e.kind==8||e.kind==9)&&l.getD (e.parts.headD 0) false)
def J9(a:List z7)(u:Bool):zC->Bool
 | .name b=>u&& !a.contains b
 |_=>false
def HT(a:List z7)(E:List Bool)(u:Bool):Term->Bool:=if u then zv a else zJ (Eb a E)
def Ve(c:List RE)(b:List z7)(l:List Bool)(u:Bool)(R:Nat->Bool->Prop):Prop:=∀k e a,c[k]?=S e->Qo R e.parts a->R k (Qk b l u e||a.any id)
def LP(c:List RE)(a:List z7)(E l:List Bool):Prop:=(∀j p,zw c j p->Zi (zv a) p=false->(∀b,p=.name b->a.contains b=true)->l.getD j false=Ze (Eb a E) p)/\∀j t,Zw c j t->ZG (zv a) t=false->l.getD j false=Zu (Eb a E) t
theorem zg0{c:List RE}{a:List (z7×Nat)}{g:List ze}{l:List Bool}(e:YK c (a.map (·.1)) (a.map (·.2)) l)(f:Yr c (a.map (·.1)) g l)(d:QP (a.map (·.1)) g (Eof (a.map (·.2)) l)):LP c (a.map (·.1)) (Eof (a.map (·.2)) l) l:=by
 refine⟨?_,?_⟩;·intro j p hd b i;rw[Bool.eq_iff_iff];exact⟨λh=>(f _ d j h).1 p hd,λh=>Un e (by simp) p hd b i h⟩
 ·intro j t hd b;rw[Bool.eq_iff_iff];exact⟨λh=>(f _ d j h).2.1 t hd,λh=>zbg e (by simp) t hd b h⟩
theorem KK{d:List z7}{a b:UInt8}{p:zC}(h:ZG (zv d) (.mk a p b)=false):Zi (zv d) p=false/\∀c,p=.name c->d.contains c=true:=by simp only[ZG,Bool.or_eq_false_iff]at h;refine⟨h.2,?_⟩;intro c e;subst e;have:=h.1;simpa[zv,Term.piece]using this
mutual
theorem wiP{xs:List RE}{names:List z7}{E l:List Bool}{u:Bool}{R:Nat->Bool->Prop}(hl:u=false->LP xs names E l)(hR:Ve xs names l u R):∀(p:zC) {k:Nat},zw xs k p->(u=false->Zi (zv names) p=false)->R k (J9 names u p||Zi (HT names E u) p)
  | .name b,k=>by
    intro h _
    simp only[zw]at h
    have:=hR k _ [] h (by simp[Qo])
    simpa[Qk,J9,Zi]using this
  | .lit b,k=>by
    intro h _
    simp only[zw]at h
    have:=hR k _ [] h (by simp[Qo])
    simpa[Qk,J9,Zi]using this
  | .cls b,k=>by
    intro h _
    simp only[zw]at h
    have:=hR k _ [] h (by simp[Qo])
    simpa[Qk,J9,Zi]using this
  | .any,k=>by
    intro h _
    simp only[zw]at h
    have:=hR k _ [] h (by simp[Qo])
    simpa[Qk,J9,Zi]using this
  | .group c,k=>by
    intro h hu
    simp only[zw]at h
    obtain⟨qs,h1,h2⟩:=h
    simp only[Zi]at hu
    obtain⟨bs,h3,h4⟩:=wiC hl hR c h2 hu
    have:=hR k _ bs h1 h3
    rw[h4]at this
    simpa[Qk,J9,Zi]using this
theorem wiT{xs:List RE}{names:List z7}{E l:List Bool}{u:Bool}{R:Nat->Bool->Prop}(hl:u=false->LP xs names E l)(hR:Ve xs names l u R):∀(t:Term) {k:Nat},Zw xs k t->(u=false->ZG (zv names) t=false)->R k (ZG (HT names E u) t)
  | .mk a p b,k=>by
    intro h hu
    simp only[Zw]at h
    obtain⟨i,j,h1,h2,h3,h4,h5⟩:=h
    have hj:=wiP hl hR p h3 (λe=>(KK (hu e)).1)
    have hi:R i (ZG (HT names E u) (.mk a p b)):=by
      by_cases hb:b=0
      · rw[if_pos hb]at h2
        subst h2
        have key:ZG (HT names E u) (.mk a p b)=(J9 names u p||Zi (HT names E u) p):=by
          cases u with
          |true=>cases p<;>simp[ZG,HT,J9,zv,Term.piece,Zi]
          |false=>cases p<;>simp[ZG,HT,J9,zJ,Term.behind,hb]
        rw[key];exact hj
      · rw[if_neg hb]at h2
        have hq:=hR i _ [_] h2 ⟨hj,trivial⟩
        have key:ZG (HT names E u) (.mk a p b)=(Qk names l u (zy (zE [b]) j)||[J9 names u p||Zi (HT names E u) p].any id):=by
         cases u with
         |true=>cases p<;>simp[ZG,HT,J9,zv,Term.piece,Zi,Qk,zy,zE]<;>(repeat' split)<;>simp
         |false=>
          have hlj:=(hl rfl).1 j p h3 (KK (hu rfl)).1 (KK (hu rfl)).2
          have hP:J9 names false p=false:=by cases p<;>simp[J9]
          rcases h4 with rfl|rfl|rfl|rfl
          · exact absurd rfl hb
          · simp[ZG,HT,zJ,Term.behind,Term.piece,Qk,zy,zE,hP]
          · simp[ZG,HT,zJ,Term.behind,Term.piece,Qk,zy,zE,hP, <-hlj]
          · simp[ZG,HT,zJ,Term.behind,Term.piece,Qk,zy,zE,hP, <-hlj]
        rw[key];exact hq
    by_cases ha:a=0
    · rw[if_pos ha]at h1
      subst h1;exact hi
    · rw[if_neg ha]at h1
      have:=hR k _ [_] h1 ⟨hi,trivial⟩
      rcases h5 with rfl|rfl|rfl
      · exact absurd rfl ha
      · simpa[Qk,zy,zE]using this
      · simpa[Qk,zy,zE]using this
theorem wiS{xs:List RE}{names:List z7}{E l:List Bool}{u:Bool}{R:Nat->Bool->Prop}(hl:u=false->LP xs names E l)(hR:Ve xs names l u R):∀(s:List Term) {ks:List Nat},Z7 xs ks s->(u=false->Zc (zv names) s=false)->∃bs,Qo R ks bs/\bs.any id=Zc (HT names E u) s
  |[],ks=>by
    intro h _
    simp only[Z7]at h
    subst h
    exact⟨[],trivial,by simp[Zc]⟩
  |t::s,ks=>by
    intro h hu
    simp only[Z7]at h
    obtain⟨k,ks',rfl,h1,h2⟩:=h
    have hu1:u=false->ZG (zv names) t=false/\Zc (zv names) s=false:=λe=>by have:=hu e;simpa only[Zc,Bool.or_eq_false_iff]using this
    obtain⟨bs,h3,h4⟩:=wiS hl hR s h2 (λe=>(hu1 e).2)
    exact⟨_::bs,⟨wiT hl hR t h1 (λe=>(hu1 e).1),h3⟩,by simp[Zc,h4]⟩
theorem wiC{xs:List RE}{names:List z7}{E l:List Bool}{u:Bool}{R:Nat->Bool->Prop}(hl:u=false->LP xs names E l)(hR:Ve xs names l u R):∀(c:List (List Term)) {qs:List Nat},zZ xs qs c->(u=false->zx (zv names) c=false)->∃bs,Qo R qs bs/\bs.any id=zx (HT names E u) c
  |[],qs=>by
    intro h _
    simp only[zZ]at h
    subst h
    exact⟨[],trivial,by simp[zx]⟩
  |s::c,qs=>by
    intro h hu
    simp only[zZ]at h
    obtain⟨q,qs',ks,rfl,h1,h2,h3⟩:=h
    have hu1:u=false->Zc (zv names) s=false/\zx (zv names) c=false:=λe=>by have:=hu e;simpa only[zx,Bool.or_eq_false_iff]using this
    obtain⟨bs,h4,h5⟩:=wiS hl hR s h2 (λe=>(hu1 e).1)
    obtain⟨cs,h6,h7⟩:=wiC hl hR c h3 (λe=>(hu1 e).2)
    refine⟨_::cs,⟨hR q _ bs h1 h4,h6⟩,?_⟩
    simp[zx,h7,h5,Qk]
 end
theorem zbP(a:List z7)(j:Nat):∀(l:List z7) (B:List Bool),j<B.length->(ZJ a B l).getD j false=(B.getD j false||(l.map (idx0 a)).contains j)
 |[],B,_=>by simp[ZJ]
 |b::l,B,c=>by
  show(ZJ a (B.set (idx0 a b) true) l).getD j false=_;rw[zbP a j l _ (by simpa using c)];simp only[List.getD_eq_getElem?_getD,List.getElem?_set,List.map_cons,List.contains_cons];by_cases h:idx0 a b=j;·subst h;simp[c]
  ·rw[if_neg h];have:(j==idx0 a b)=false:=by simpa usingλe=>h e.symm
   rw[this];simp
theorem KJ{a:List z7}{E:List Bool}{g:List ze}{i j:Nat}(d:i<g.length)(e:0<a.length):Za a E g i j=true↔j∈(ZC (Eb a E) g[i].choice).map (idx0 a):=by
 unfold Za;simp only[List.getElem?_eq_getElem d,Option.map_some,Option.getD_some];by_cases c:j<a.length;·rw[zbP _ _ _ _ (by simpa using c)];simp[c]
 ·constructor;·intro h;rw[List.getD_eq_getElem?_getD,List.getElem?_eq_none (by rw[UO];simp;omega)]at h;cases h
  ·intro h;obtain⟨b,_,f⟩:=List.mem_map.1 h;have:=YU b e;omega
def Js(d:Nat)(b:List Tok)(r:Res zC):Prop:=∀a,Qi d b a->r=a
def Yc(d:Nat)(b:List Tok)(r:Res Term):Prop:=∀a,QF d b a->r=a
def J2(d:Nat)(b:List Tok)(r:Res Seq):Prop:=∀a,ZW d b a->r=a
def Je(d:Nat)(b:List Tok)(r:Res Z5):Prop:=∀a,Z8 d b a->r=a
theorem Uy{d:Nat}{c:List Tok}{p:zC}(b:zU (hd c)=S p):Js d c (.ok p c.tail):=by
 intro h g;cases g with
 |plain f=>rw[b]at f;cases f;rfl|bad e _=>rw[b]at e;cases e|deep a=>exact absurd b (by simp[zU,a])|group a _ _ _=>exact absurd b (by simp[zU,a])|unclosed a _ _ _=>exact absurd b (by simp[zU,a])|inner a _ _=>exact absurd b (by simp[zU,a])
theorem Uu{d:Nat}{c:List Tok}(g:zU (hd c)=N)(b:(hd c).kind≠.sign 40):Js d c (.err 2 (hd c).place):=by
 intro h f;cases f with
 |plain e=>rw[g]at e;cases e|bad _ _=>rfl|deep a=>exact absurd a b|group a _ _ _=>exact absurd a b|unclosed a _ _ _=>exact absurd a b|inner a _ _=>exact absurd a b
theorem Uv{a:List Tok}(b:(hd a).kind=.sign 40):Js 6 a (.err 3 (hd a).place):=by
 intro f c;cases c with
 |plain e=>exact absurd e (by simp[zU,b])|bad _ d=>exact absurd b d|deep _=>rfl|group _ hd _ _=>exact absurd rfl hd|unclosed _ hd _ _=>exact absurd rfl hd|inner _ hd _=>exact absurd rfl hd
theorem Uw{d:Nat}{e:List Tok}{c:Z5}{b:List Tok}(g:(hd e).kind=.sign 40)(k:d≠6)(n:Z8 (d+1) e.tail (.ok c b))(i:(hd b).kind=.sign 41)(f:Je (d+1) e.tail (.ok c b)):Js d e (.ok (.group c) b.tail):=by
 intro o h;cases h with
 |plain m=>exact absurd m (by simp[zU,g])|bad _ l=>exact absurd g l|deep _=>exact absurd rfl k|group _ _ a _=>have:=f _ a;cases this;rfl|unclosed _ _ a j=>have:=f _ a;cases this;exact absurd i j|inner _ _ a=>have:=f _ a;cases this
theorem Uz{d:Nat}{e:List Tok}{c:Z5}{b:List Tok}(g:(hd e).kind=.sign 40)(k:d≠6)(n:Z8 (d+1) e.tail (.ok c b))(i:(hd b).kind≠.sign 41)(f:Je (d+1) e.tail (.ok c b)):Js d e (.err 2 (hd b).place):=by
 intro o h;cases h with
 |plain m=>exact absurd m (by simp[zU,g])|bad _ l=>exact absurd g l|deep _=>exact absurd rfl k|group _ _ a j=>have:=f _ a;cases this;exact absurd j i|unclosed _ _ a _=>have:=f _ a;cases this;rfl|inner _ _ a=>have:=f _ a;cases this
theorem Ux{d:Nat}{b:List Tok}{e p:Nat}(f:(hd b).kind=.sign 40)(h:d≠6)(k:Z8 (d+1) b.tail (.err e p))(c:Je (d+1) b.tail (.err e p)):Js d b (.err e p):=by
 intro l g;cases g with
 |plain j=>exact absurd j (by simp[zU,f])|bad _ i=>exact absurd f i|deep _=>exact absurd rfl h|group _ _ a _=>have:=c _ a;cases this|unclosed _ _ a _=>have:=c _ a;cases this|inner _ _ a=>have:=c _ a;cases this;rfl
theorem UF{d:Nat}{b:List Tok}{p:zC}{a:List Tok}(g:Qi d (Z9 b).2 (.ok p a))(e:Js d (Z9 b).2 (.ok p a)):Yc d b (.ok (.mk (Z9 b).1 p (Zg a).1) (Zg a).2):=by
 intro h f;cases f with
 |ok c=>have:=e _ c;cases this;rfl|err c=>have:=e _ c;cases this
theorem UE{d:Nat}{b:List Tok}{e p:Nat}(g:Qi d (Z9 b).2 (.err e p))(c:Js d (Z9 b).2 (.err e p)):Yc d b (.err e p):=by
 intro h f;cases f with
 |ok a=>have:=c _ a;cases this|err a=>have:=c _ a;cases this;rfl
theorem UD{d:Nat}{c:List Tok}(b:zX d c=false):J2 d c (.ok [] c):=by
 intro f e;cases e with
 |nil _=>rfl|cons a _ _=>rw[b]at a;cases a|err a _=>rw[b]at a;cases a|later a _ _=>rw[b]at a;cases a
theorem UA{d:Nat}{c:List Tok}{t:Term}{b:List Tok}{s:Seq}{g:List Tok}(k:zX d c=true)(m:QF d c (.ok t b))(l:ZW d b (.ok s g))(f:Yc d c (.ok t b))(i:J2 d b (.ok s g)):J2 d c (.ok (t::s) g):=by
 intro n j;cases j with
 |nil h=>rw[k]at h;cases h|cons _ a e=>have:=f _ a;cases this;have:=i _ e;cases this;rfl|err _ a=>have:=f _ a;cases this|later _ a e=>have:=f _ a;cases this;have:=i _ e;cases this
theorem UB{d:Nat}{b:List Tok}{e p:Nat}(h:zX d b=true)(i:QF d b (.err e p))(c:Yc d b (.err e p)):J2 d b (.err e p):=by
 intro j g;cases g with
 |nil f=>rw[h]at f;cases f|cons _ a _=>have:=c _ a;cases this|err _ a=>have:=c _ a;cases this;rfl|later _ a _=>have:=c _ a;cases this
theorem UC{d:Nat}{c:List Tok}{t:Term}{b:List Tok}{e p:Nat}(k:zX d c=true)(m:QF d c (.ok t b))(l:ZW d b (.err e p))(g:Yc d c (.ok t b))(i:J2 d b (.err e p)):J2 d c (.err e p):=by
 intro n j;cases j with
 |nil h=>rw[k]at h;cases h|cons _ a f=>have:=g _ a;cases this;have:=i _ f;cases this|err _ a=>have:=g _ a;cases this|later _ a f=>have:=g _ a;cases this;have:=i _ f;cases this;rfl
theorem Ur{d:Nat}{f:List Tok}{s:Seq}{c:List Tok}(i:ZW d f (.ok s c))(g:(hd c).kind≠.sign 47)(b:J2 d f (.ok s c)):Je d f (.ok [s] c):=by
 intro j h;cases h with
 |last a _=>have:=b _ a;cases this;rfl|more a e _=>have:=b _ a;cases this;exact absurd e g|err a=>have:=b _ a;cases this|later a e _=>have:=b _ a;cases this;exact absurd e g
theorem Ut{d:Nat}{h:List Tok}{s:Seq}{b:List Tok}{c:Z5}{g:List Tok}(n:ZW d h (.ok s b))(k:(hd b).kind=.sign 47)(m:Z8 d b.tail (.ok c g))(e:J2 d h (.ok s b))(i:Je d b.tail (.ok c g)):Je d h (.ok (s::c) g):=by
 intro o j;cases j with
 |last a l=>have:=e _ a;cases this;exact absurd k l|more a _ f=>have:=e _ a;cases this;have:=i _ f;cases this;rfl|err a=>have:=e _ a;cases this|later a _ f=>have:=e _ a;cases this;have:=i _ f;cases this
theorem Uq{d:Nat}{c:List Tok}{e p:Nat}(g:ZW d c (.err e p))(b:J2 d c (.err e p)):Je d c (.err e p):=by
 intro h f;cases f with
 |last a _=>have:=b _ a;cases this|more a _ _=>have:=b _ a;cases this|err a=>have:=b _ a;cases this;rfl|later a _ _=>have:=b _ a;cases this
theorem Us{d:Nat}{g:List Tok}{s:Seq}{b:List Tok}{e p:Nat}(m:ZW d g (.ok s b))(j:(hd b).kind=.sign 47)(l:Z8 d b.tail (.err e p))(c:J2 d g (.ok s b))(h:Je d b.tail (.err e p)):Je d g (.err e p):=by
 intro n i;cases i with
 |last a k=>have:=c _ a;cases this;exact absurd j k|more a _ f=>have:=c _ a;cases this;have:=h _ f;cases this|err a=>have:=c _ a;cases this|later a _ f=>have:=c _ a;cases this;have:=h _ f;cases this;rfl
theorem Qi.det{d:Nat}{a:List Tok}{r b:Res zC}(h:Qi d a r)(c:Qi d a b):r=b:=by
 refine(Qi.rec (motive_1:=λd a r _=>Js d a r) (motive_2:=λd a r _=>Yc d a r) (motive_3:=λd a r _=>J2 d a r) (motive_4:=λd a r _=>Je d a r) ?_ ?_ ?_ ?_ ?_ ?_ ?_ ?_ ?_ ?_ ?_ ?_ ?_ ?_ ?_ ?_ h:Js d a r) _ c;·intros;apply Uy<;>assumption
 ·intros;apply Uu<;>assumption
 ·intros;apply Uv<;>assumption
 ·intros;apply Uw<;>assumption
 ·intros;apply Uz<;>assumption
 ·intros;apply Ux<;>assumption
 ·intros;apply UF<;>assumption
 ·intros;apply UE<;>assumption
 ·intros;apply UD<;>assumption
 ·intros;apply UA<;>assumption
 ·intros;apply UB<;>assumption
 ·intros;apply UC<;>assumption
 ·intros;apply Ur<;>assumption
 ·intros;apply Ut<;>assumption
 ·intros;apply Uq<;>assumption
 ·intros;apply Us<;>assumption
theorem QF.det{d:Nat}{a:List Tok}{r b:Res Term}(h:QF d a r)(c:QF d a b):r=b:=by
 refine(QF.rec (motive_1:=λd a r _=>Js d a r) (motive_2:=λd a r _=>Yc d a r) (motive_3:=λd a r _=>J2 d a r) (motive_4:=λd a r _=>Je d a r) ?_ ?_ ?_ ?_ ?_ ?_ ?_ ?_ ?_ ?_ ?_ ?_ ?_ ?_ ?_ ?_ h:Yc d a r) _ c;·intros;apply Uy<;>assumption
 ·intros;apply Uu<;>assumption
 ·intros;apply Uv<;>assumption
 ·intros;apply Uw<;>assumption
 ·intros;apply Uz<;>assumption
 ·intros;apply Ux<;>assumption
 ·intros;apply UF<;>assumption
 ·intros;apply UE<;>assumption
 ·intros;apply UD<;>assumption
 ·intros;apply UA<;>assumption
 ·intros;apply UB<;>assumption
 ·intros;apply UC<;>assumption
 ·intros;apply Ur<;>assumption
 ·intros;apply Ut<;>assumption
 ·intros;apply Uq<;>assumption
 ·intros;apply Us<;>assumption
theorem ZW.det{d:Nat}{a:List Tok}{r b:Res Seq}(h:ZW d a r)(c:ZW d a b):r=b:=by
 refine(ZW.rec (motive_1:=λd a r _=>Js d a r) (motive_2:=λd a r _=>Yc d a r) (motive_3:=λd a r _=>J2 d a r) (motive_4:=λd a r _=>Je d a r) ?_ ?_ ?_ ?_ ?_ ?_ ?_ ?_ ?_ ?_ ?_ ?_ ?_ ?_ ?_ ?_ h:J2 d a r) _ c;·intros;apply Uy<;>assumption
 ·intros;apply Uu<;>assumption
 ·intros;apply Uv<;>assumption
 ·intros;apply Uw<;>assumption
 ·intros;apply Uz<;>assumption
 ·intros;apply Ux<;>assumption
 ·intros;apply UF<;>assumption
 ·intros;apply UE<;>assumption
 ·intros;apply UD<;>assumption
 ·intros;apply UA<;>assumption
 ·intros;apply UB<;>assumption
 ·intros;apply UC<;>assumption
 ·intros;apply Ur<;>assumption
 ·intros;apply Ut<;>assumption
 ·intros;apply Uq<;>assumption
 ·intros;apply Us<;>assumption
theorem Z8.det{d:Nat}{a:List Tok}{r b:Res Z5}(h:Z8 d a r)(c:Z8 d a b):r=b:=by
 refine(Z8.rec (motive_1:=λd a r _=>Js d a r) (motive_2:=λd a r _=>Yc d a r) (motive_3:=λd a r _=>J2 d a r) (motive_4:=λd a r _=>Je d a r) ?_ ?_ ?_ ?_ ?_ ?_ ?_ ?_ ?_ ?_ ?_ ?_ ?_ ?_ ?_ ?_ h:Je d a r) _ c;·intros;apply Uy<;>assumption
 ·intros;apply Uu<;>assumption
 ·intros;apply Uv<;>assumption
 ·intros;apply Uw<;>assumption
 ·intros;apply Uz<;>assumption
 ·intros;apply Ux<;>assumption
 ·intros;apply UF<;>assumption
 ·intros;apply UE<;>assumption
 ·intros;apply UD<;>assumption
 ·intros;apply UA<;>assumption
 ·intros;apply UB<;>assumption
 ·intros;apply UC<;>assumption
 ·intros;apply Ur<;>assumption
 ·intros;apply Ut<;>assumption
 ·intros;apply Uq<;>assumption
 ·intros;apply Us<;>assumption
theorem ZV.det{n:Nat}{k:List Tok}{r j:Res ze}(h:ZV n k r)(c:ZV n k j):r=j:=by
 cases h with
 |noName b=>cases c<;>first|rfl|contradiction
 |many b d=>cases c<;>first|rfl|contradiction
 |noArrow b d=>cases c<;>first|rfl|contradiction
 |ok b d i e=>
  cases c with
  |noName g=>exact absurd b g|many _ _=>exact absurd rfl i|noArrow _ f=>exact absurd d f|ok _ _ _ a=>have:=e.det a;cases this;rfl|err _ _ _ a=>have:=e.det a;cases this
 |err b d i e=>
  cases c with
  |noName g=>exact absurd b g|many _ _=>exact absurd rfl i|noArrow _ f=>exact absurd d f|ok _ _ _ a=>have:=e.det a;cases this|err _ _ _ a=>have:=e.det a;cases this;rfl
theorem ZU.det{n:Nat}{j:List Tok}{r:Except (Nat×Nat) (List ze)}(h:ZU n j r):∀{g},ZU n j g->r=g:=by
 induction h with
 |last b f=>
  intro g c;cases c with
  |last a _=>have:=b.det a;cases this;rfl|more a e _=>have:=b.det a;cases this;exact absurd f e|err a=>have:=b.det a;cases this|later a e _=>have:=b.det a;cases this;exact absurd f e
 |more b f _ i=>
  intro g c;cases c with
  |last a e=>have:=b.det a;cases this;exact absurd e f|more a _ d=>have:=b.det a;cases this;have:=i d;cases this;rfl|err a=>have:=b.det a;cases this|later a _ d=>have:=b.det a;cases this;have:=i d;cases this
 |err b=>
  intro g c;cases c with
  |last a _=>have:=b.det a;cases this|more a _ _=>have:=b.det a;cases this|err a=>have:=b.det a;cases this;rfl|later a _ _=>have:=b.det a;cases this
 |later b f _ i=>
  intro g c;cases c with
  |last a e=>have:=b.det a;cases this;exact absurd e f|more a _ d=>have:=b.det a;cases this;have:=i d;cases this|err a=>have:=b.det a;cases this|later a _ d=>have:=b.det a;cases this;have:=i d;cases this;rfl
theorem Yz{c:List z7}:∀{d e:Option Nat},JG c d->JG c e->d=e
 |none,N,_,_=>rfl
 |none,S i,a,b=>by have:=a i b.1;rw[b.2.1]at this;cases this
 |some i,N,a,b=>by have:=b i a.1;rw[a.2.1]at this;cases this
 |some i,S j,a,b=>by
  rcases Nat.lt_trichotomy i j with h|h|h;·have:=b.2.2 i h;rw[a.2.1]at this;cases this
  ·rw[h]
  ·have:=a.2.2 j h;rw[b.2.1]at this;cases this
theorem JQ{g:List ze}{p:Z5->Bool}:∀{d e:Option Nat},Qp g p d->Qp g p e->d=e
 |none,N,_,_=>rfl
 |none,S i,a,b=>by obtain⟨h,c,_⟩:=b;have:=a i h;rw[c]at this;cases this
 |some i,N,a,b=>by obtain⟨h,c,_⟩:=a;have:=b i h;rw[c]at this;cases this
 |some i,S j,a,b=>by
  obtain⟨f,k,l⟩:=a;obtain⟨m,n,o⟩:=b;rcases Nat.lt_trichotomy i j with h|h|h;·have:=o i f h;rw[k]at this;cases this
  ·rw[h]
  ·have:=l j m h;rw[n]at this;cases this
theorem za9{c:List z7}{E:List Bool}{g:List ze}:∀{d e:Option Nat},Ks c E g d->Ks c E g e->d=e
 |none,N,_,_=>rfl
 |none,S i,a,b=>by have:=a i b.1;rw[b.2.1]at this;cases this
 |some i,N,a,b=>by have:=b i a.1;rw[a.2.1]at this;cases this
 |some i,S j,a,b=>by
  rcases Nat.lt_trichotomy i j with h|h|h;·have:=b.2.2 i h;rw[a.2.1]at this;cases this
  ·rw[h]
  ·have:=a.2.2 j h;rw[b.2.1]at this;cases this
theorem Yy{c:List z7}{g:List ze}{E F:List Bool}(j:E.length=g.length)(d:QP c g E)(e:QQ c g E)(k:F.length=g.length)(f:QP c g F)(h:QQ c g F):E=F:=by apply List.ext_getElem (by omega);intro i a b;have:=QQ.same d e f h i;simpa[List.getD_eq_getElem?_getD,a,b]using this
theorem Qh.det{g:List ze}{q r:Except (Nat×Nat) (List Bool)}(s:Qh g q)(o:Qh g r):q=r:=by
 cases s with
 |twice f=>cases o with|twice a=>cases Yz f a;rfl|unknown a _=>cases Yz f a|loop a=>cases Yz f a|left a=>cases Yz f a|ok a=>cases Yz f a
 |unknown f l=>cases o with|twice a=>cases Yz f a|unknown a b=>cases JQ l b;rfl|loop a b=>cases JQ l b|left a b=>cases JQ l b|ok a b=>cases JQ l b
 |loop f l i j k m=>cases o with|twice a=>cases Yz f a|unknown a b=>cases JQ l b|loop a b c d e h=>cases Yy i j k c d e;cases JQ m h;rfl|left a b c d e h=>cases Yy i j k c d e;cases JQ m h|ok a b c d e h=>cases Yy i j k c d e;cases JQ m h
 |left f l i j k m p=>cases o with|twice a=>cases Yz f a|unknown a b=>cases JQ l b|loop a b c d e h=>cases Yy i j k c d e;cases JQ m h|left a b c d e h n=>cases Yy i j k c d e;cases za9 p n;rfl|ok a b c d e h n=>cases Yy i j k c d e;cases za9 p n
 |ok f l i j k m p=>cases o with|twice a=>cases Yz f a|unknown a b=>cases JQ l b|loop a b c d e h=>cases Yy i j k c d e;cases JQ m h|left a b c d e h n=>cases Yy i j k c d e;cases za9 p n|ok a b c d e h n=>cases Yy i j k c d e;rfl
theorem Zs.det{l:List UInt8}{d e:Except (Nat×Nat) (List ze)}(h:Zs l d)(c:Zs l e):d=e:=by
 cases h with
 |long a=>cases c with|long b=>rfl|read b _=>omega
 |read a f=>cases c with|long b=>omega|read b g=>exact ZU.det f g
theorem Zo.det{l:List UInt8}{f g:Except (Nat×Nat) (List ze×List Bool)}(h:Zo l f)(e:Zo l g):f=g:=by
 cases h with
 |text a=>cases e with|text b=>have:=Zs.det a b;cases this;rfl|rules b _=>have:=Zs.det a b;cases this|ok b _=>have:=Zs.det a b;cases this
 |rules a d=>cases e with|text b=>have:=Zs.det a b;cases this|rules b c=>have:=Zs.det a b;cases this;have:=Qh.det d c;cases this;rfl|ok b c=>have:=Zs.det a b;cases this;have:=Qh.det d c;cases this
 |ok a d=>cases e with|text b=>have:=Zs.det a b;cases this|rules b c=>have:=Zs.det a b;cases this;have:=Qh.det d c;cases this|ok b c=>have:=Zs.det a b;cases this;have:=Qh.det d c;cases this;rfl
structure JH(M:Mat)(n rule:Nat)(todo:List Nat)(seen:List Bool):Prop where
 len:seen.length=n
 reach:∀j∈todo,Wm M n rule j=true/\j<n
 first:∀k,M rule k=true->k∈todo\/seen.getD k false=true
 shut:∀j k,seen.getD j false=true->M j k=true->k∈todo\/seen.getD k false=true
 other:seen.getD rule false=false
theorem JH.start{M:Mat}{n e:Nat}{b:List Nat}(c:∀k,M e k=true↔k∈b)(f:∀k∈b,k<n):JH M n e b (List.replicate n false):=by
 have d:∀j,(List.replicate n false).getD j false=false:=by intro j;rw[List.getD_eq_getElem?_getD,List.getElem?_replicate];split<;>rfl
 exact⟨by simp,λj a=>⟨Vh M n _ _ ((c j).2 a),f j a⟩,λk g=>.inl ((c k).1 g),λj k a=>(by rw[d j]at a;cases a),d _⟩
theorem JH.done{M:Mat}{n a:Nat}{c:List Bool}(h:JH M n a [] c):Wm M n a a=false:=by
 cases e:Wm M n a a with
 |false=>rfl|true=>have:=Ua M (λj=>c.getD j false=true) (λj k d b=>(h.shut j k d b).resolve_left (by simp)) n a a (λk b=>(h.first k b).resolve_left (by simp)) e;rw[h.other]at this;cases this
theorem JH.skip{M:Mat}{n e k:Nat}{f:List Nat}{c:List Bool}(h:JH M n e (k::f) c)(d:c.getD k false=true):JH M n e f c:=by
 refine⟨h.len,λj b=>h.reach j (by simp[b]),?_,?_,h.other⟩
 ·intro j b;rcases h.first j b with a|a
  ·rcases List.mem_cons.1 a with a|a;·subst a;exact .inr d
   ·exact .inl a
  ·exact .inr a
 ·intro i j g b;rcases h.shut i j g b with a|a
  ·rcases List.mem_cons.1 a with a|a;·subst a;exact .inr d
   ·exact .inl a
  ·exact .inr a
theorem qY(a:List Bool)(k j:Nat)(b:k<a.length):(a.set k true).getD j false=(decide (j=k)||a.getD j false):=by
 simp only[List.getD_eq_getElem?_getD,List.getElem?_set];by_cases h:k=j;·subst h;simp[b]
 ·rw[if_neg h];have:decide (j=k)=false:=by simpa usingλe=>h e.symm
  rw[this];simp
theorem JH.step{M:Mat}{n c k:Nat}{p next:List Nat}{g:List Bool}(h:JH M n c (k::p) g)(r:k≠c)(l:∀j,M k j=true↔j∈next)(q:∀j∈next,j<n):JH M n c (p++next) (g.set k true):=by
 have d:=h.reach k (by simp);have f:k<g.length:=by rw[h.len];exact d.2
 refine⟨by simp[h.len],?_,?_,?_,?_⟩
 ·intro j b;rcases List.mem_append.1 b with b|b;·exact h.reach j (by simp[b])
  ·exact⟨zdJ M n k c j d.2 d.1 ((l j).2 b),q j b⟩
 ·intro j b;rw[qY _ _ _ f];rcases h.first j b with a|a
  ·rcases List.mem_cons.1 a with a|a;·subst a;right;simp
   ·left;simp[a]
  ·right;simp only[a,Bool.or_true]
 ·intro i j m b;rw[qY _ _ _ f]at m|-;by_cases o:i=k;·subst o;left;exact List.mem_append_right _ ((l j).1 b)
  ·rcases h.shut i j (by simpa[o]using m) b with a|a
   ·rcases List.mem_cons.1 a with a|a;·subst a;right;simp
    ·left;simp[a]
   ·right;simp only[a,Bool.or_true]
 ·rw[qY _ _ _ f,h.other];simpa usingλe=>r e.symm
def QO(a:List Bool):Nat:=(a.filter (!·)).length
theorem qk:∀(a:List Bool) (k:Nat),k<a.length->a.getD k false=false->QO (a.set k true)+1=QO a
 |[],k,h,_=>by simp at h
 |b::s,0,_,h=>by simp at h;subst h;simp[QO]
 |b::s,k+1,h,c=>by have:=qk s k (by simpa using h) (by simpa using c);unfold QO at this|-;cases b<;>simp at this|- <;>omega
mutual
def ncP:zC->Nat
  | .name _=>1
  | .group c=>ncC c
  |_=>0
def ncT:Term->Nat
  | .mk _ p _=>ncP p
def ncS:List Term->Nat
  |[]=>0
  |t::s=>ncT t+ncS s
def ncC:List (List Term)->Nat
  |[]=>0
  |s::c=>ncS s+ncC c
 end
mutual
theorem zbA(E:z7->Bool):∀p:zC,(Zy E p).length<=ncP p
  | .name _=>by simp[Zy,ncP]
  | .lit _=>by simp[Zy]
  | .cls _=>by simp[Zy]
  | .any=>by simp[Zy]
  | .group c=>by simp only[Zy,ncP];exact UJ E c
theorem zeZ(E:z7->Bool):∀t:Term,(JR E t).length<=ncT t
  | .mk _ p _=>by simp only[JR,ncT];exact zbA E p
theorem qX(E:z7->Bool):∀s:List Term,(Q2 E s).length<=ncS s
  |[]=>by simp[Q2]
  |t::s=>by
    have h1:=zeZ E t
    have h2:=qX E s
    simp only[Q2,ncS,List.length_append]
    split
    · omega
    · simp;omega
theorem UJ(E:z7->Bool):∀c:List (List Term),(ZC E c).length<=ncC c
  |[]=>by simp[ZC]
  |s::c=>by
    have h1:=qX E s
    have h2:=UJ E c
    simp only[ZC,ncC,List.length_append]
    omega
 end
theorem zaW(a:List Tok):(Z9 a).2.length<=a.length:=by
 unfold Z9;repeat' split
 all_goals simp
theorem zb3(a:List Tok):(Zg a).2.length<=a.length:=by
 unfold Zg;repeat' split
 all_goals simp
def LP1(b:List Tok)(r:Res zC):Prop:=∀p a,r=.ok p a->ncP p+a.length<=b.length
def LP2(b:List Tok)(r:Res Term):Prop:=∀p a,r=.ok p a->ncT p+a.length<=b.length
def LP3(b:List Tok)(r:Res Seq):Prop:=∀p a,r=.ok p a->ncS p+a.length<=b.length
def LP4(b:List Tok)(r:Res Z5):Prop:=∀p a,r=.ok p a->ncC p+a.length<=b.length
theorem zg1{a:List Tok}{p:zC}(h:zU (hd a)=S p):LP1 a (.ok p a.tail):=by
 intro b c e;cases e;cases a with
 |nil=>simp[hd,zU,zB]at h
 |cons t a=>
  simp only[hd,List.headD_cons]at h;unfold zU at h;split at h;·cases h;simp[ncP];omega
  ·cases h;simp[ncP]
  ·cases h;simp[ncP]
  ·split at h;·cases h;simp[ncP]
   ·cases h
  ·cases h
theorem Z8.nc{d:Nat}{a:List Tok}{c:Z5}{b:List Tok}(h:Z8 d a (.ok c b)):ncC c+b.length<=a.length:=by
 refine(Z8.rec (motive_1:=λ_ a r _=>LP1 a r) (motive_2:=λ_ a r _=>LP2 a r) (motive_3:=λ_ a r _=>LP3 a r) (motive_4:=λ_ a r _=>LP4 a r) ?_ ?_ ?_ ?_ ?_ ?_ ?_ ?_ ?_ ?_ ?_ ?_ ?_ ?_ ?_ ?_ h:LP4 a (.ok c b)) c b rfl;·intro d a p h;exact zg1 h
 ·intro d a h n p b e;cases e
 ·intro a h p b e;cases e
 ·intro d a c b g i m o f p l e;cases e;have:=f _ _ rfl;simp only[ncP,List.length_tail]at this|-;omega
 ·intros;intro p b e;cases e
 ·intros;intro p b e;cases e
 ·intro d a p b h f t l e;cases e;have:=f _ _ rfl;have g:=zaW a;have i:=zb3 b;simp only[ncT];omega
 ·intros;intro p b e;cases e
 ·intro d a h p b e;cases e;simp[ncS]
 ·intro d a t b s l g i m j k p r e;cases e;have:=j _ _ rfl;have:=k _ _ rfl;simp only[ncS];omega
 ·intros;intro p b e;cases e
 ·intros;intro p b e;cases e
 ·intro d a s b g i f p r e;cases e;have:=f _ _ rfl;simp only[ncC];omega
 ·intro d a s b c l g i m j k p r e;cases e;have:=j _ _ rfl;have:=k _ _ rfl;simp only[ncC,List.length_tail]at *;omega
 ·intros;intro p b e;cases e
 ·intros;intro p b e;cases e
theorem ZV.nc{n:Nat}{a:List Tok}{r:ze}{b:List Tok}(h:ZV n a (.ok r b)):ncC r.choice<=a.length/\b.length<=a.length:=by
 cases h with
 |ok _ _ _ c=>have:=c.nc;simp only[List.length_tail]at this;simp only[];omega
theorem ZU.nc{n:Nat}{d:List Tok}{g:List ze}(h:ZU n d (.ok g)):∀r∈g,ncC r.choice<=d.length:=by
 generalize c:(Except.ok g:Except (Nat×Nat) (List ze))=i at h;induction h generalizing g with
 |last b e=>cases c;intro r a;simp only[List.mem_singleton]at a;subst a;exact b.nc.1
 |more b e _ f=>
  cases c;intro r a;rcases List.mem_cons.1 a with rfl|a;·exact b.nc.1
  ·have:=f rfl r a;have:=b.nc.2;omega
 |err b=>cases c|later _ _ _ _=>cases c
theorem zda:∀(f a:Nat) (l:z7),(QC f a l).length<=f
 |0,_,_=>by simp[QC]
 |f+1,a,l=>by
  simp only[QC,List.length_cons];split;·simp
  ·have:=zda f (a+blk false l+(zM (l.drop (blk false l))).size) ((l.drop (blk false l)).drop (zM (l.drop (blk false l))).size);omega
theorem zdf(l:z7):(Qn l).length<=l.length+1:=zda _ _ _
def ZI(a:Bool):List (List Nat)->List Bool->List Nat
 |f::d,b::c=>f++(if a&& !b then[]else ZI a d c)
 |_,_=>[]
structure Vd(xs:List RE)(names:List z7)(l:List Bool)(R:Nat->List Nat->Prop):Prop where
 name:∀k e,xs[k]?=some e->e.kind=4->names.contains e.text=true->R k [idx0 names e.text]
 other:∀k e fs,xs[k]?=some e->e.kind≠4->Qo R e.parts fs->(ZI (e.kind==5) fs (e.parts.map λp=>l.getD p false)).length<=100000->R k (ZI (e.kind==5) fs (e.parts.map λp=>l.getD p false))
mutual
theorem fiP{xs:List RE}{names:List z7}{E l:List Bool}{R:Nat->List Nat->Prop}(hl:LP xs names E l)(hR:Vd xs names l R):∀(p:zC) {k:Nat},zw xs k p->Zi (zv names) p=false->(∀b,p=.name b->names.contains b=true)->ncP p<=100000->R k ((Zy (Eb names E) p).map (idx0 names))
  | .name b,k=>by
    intro h _ hn _
    simp only[zw]at h
    have:=hR.name k _ h rfl (hn b rfl)
    simpa[Zy]using this
  | .lit b,k=>by
    intro h _ _ _
    simp only[zw]at h
    have:=hR.other k _ [] h (by simp) trivial (by simp[ZI])
    simpa[Zy,ZI]using this
  | .cls b,k=>by
    intro h _ _ _
    simp only[zw]at h
    have:=hR.other k _ [] h (by simp) trivial (by simp[ZI])
    simpa[Zy,ZI]using this
  | .any,k=>by
    intro h _ _ _
    simp only[zw]at h
    have:=hR.other k _ [] h (by simp) trivial (by simp[ZI])
    simpa[Zy,ZI]using this
  | .group c,k=>by
    intro h hu _ hb
    simp only[zw]at h
    obtain⟨qs,h1,h2⟩:=h
    simp only[Zi]at hu
    simp only[ncP]at hb
    obtain⟨fs,h3,h4⟩:=fiC hl hR c h2 hu hb
    have hbb:=UJ (Eb names E) c
    have:=hR.other k _ fs h1 (by simp) h3 (by rw[show(((⟨6,[],[],0,qs⟩:RE).kind)==5)=false from rfl,h4,List.length_map];omega)
    rw[show((6:Nat)==5)=false from rfl,h4]at this
    simpa[Zy]using this
theorem fiT{xs:List RE}{names:List z7}{E l:List Bool}{R:Nat->List Nat->Prop}(hl:LP xs names E l)(hR:Vd xs names l R):∀(t:Term) {k:Nat},Zw xs k t->ZG (zv names) t=false->ncT t<=100000->R k ((JR (Eb names E) t).map (idx0 names))
  | .mk a p b,k=>by
    intro h hu hb
    simp only[Zw]at h
    obtain⟨i,j,h1,h2,h3,h4,h5⟩:=h
    simp only[ncT]at hb
    have hbb:=zbA (Eb names E) p
    have hj:=fiP hl hR p h3 (KK hu).1 (KK hu).2 hb
    have hi:R i ((Zy (Eb names E) p).map (idx0 names)):=by
      by_cases hb0:b=0
      · rw[if_pos hb0]at h2
        subst h2;exact hj
      · rw[if_neg hb0]at h2
        have hs:zE [b]≠4/\zE [b]≠5:=by unfold zE;(repeat' split)<;>simp
        have h5':((zy (zE [b]) j).kind==5)=false:=by simpa[zy]using hs.2
        have:=hR.other i _ [_] h2 hs.1 ⟨hj,trivial⟩ (by rw[h5'];simp[ZI,zy];omega)
        rw[h5']at this
        simpa[ZI,zy]using this
    simp only[JR]
    by_cases ha:a=0
    · rw[if_pos ha]at h1
      subst h1;exact hi
    · rw[if_neg ha]at h1
      have hs:zE [a]≠4/\zE [a]≠5:=by unfold zE;(repeat' split)<;>simp
      have h5':((zy (zE [a]) i).kind==5)=false:=by simpa[zy]using hs.2
      have:=hR.other k _ [_] h1 hs.1 ⟨hi,trivial⟩ (by rw[h5'];simp[ZI,zy];omega)
      rw[h5']at this
      simpa[ZI,zy]using this
theorem fiS{xs:List RE}{names:List z7}{E l:List Bool}{R:Nat->List Nat->Prop}(hl:LP xs names E l)(hR:Vd xs names l R):∀(s:List Term) {ks:List Nat},Z7 xs ks s->Zc (zv names) s=false->ncS s<=100000->∃fs,Qo R ks fs/\ZI true fs (ks.map λp=>l.getD p false)=(Q2 (Eb names E) s).map (idx0 names)
  |[],ks=>by
    intro h _ _
    simp only[Z7]at h
    subst h
    exact⟨[],trivial,by simp[Q2,ZI]⟩
  |t::s,ks=>by
    intro h hu hb
    simp only[ncS]at hb
    simp only[Z7]at h
    obtain⟨k,ks',rfl,h1,h2⟩:=h
    simp only[Zc,Bool.or_eq_false_iff]at hu
    obtain⟨fs,h3,h4⟩:=fiS hl hR s h2 hu.2 (by omega)
    refine⟨_::fs,⟨fiT hl hR t h1 hu.1 (by omega),h3⟩,?_⟩
    have hk:=hl.2 k t h1 hu.1
    simp only[List.map_cons,ZI,Q2,hk,h4,List.map_append]
    cases Zu (Eb names E) t<;>simp
theorem fiC{xs:List RE}{names:List z7}{E l:List Bool}{R:Nat->List Nat->Prop}(hl:LP xs names E l)(hR:Vd xs names l R):∀(c:List (List Term)) {qs:List Nat},zZ xs qs c->zx (zv names) c=false->ncC c<=100000->∃fs,Qo R qs fs/\ZI false fs (qs.map λp=>l.getD p false)=(ZC (Eb names E) c).map (idx0 names)
  |[],qs=>by
    intro h _ _
    simp only[zZ]at h
    subst h
    exact⟨[],trivial,by simp[ZC,ZI]⟩
  |s::c,qs=>by
    intro h hu hb
    simp only[ncC]at hb
    have hbb:=qX (Eb names E) s
    simp only[zZ]at h
    obtain⟨q,qs',ks,rfl,h1,h2,h3⟩:=h
    simp only[zx,Bool.or_eq_false_iff]at hu
    obtain⟨fs,h4,h5⟩:=fiS hl hR s h2 hu.1 (by omega)
    obtain⟨gs,h6,h7⟩:=fiC hl hR c h3 hu.2 (by omega)
    have hq:=hR.other q _ fs h1 (by simp) h4 (by rw[show(((⟨5,[],[],0,ks⟩:RE).kind)==5)=true from rfl,h5,List.length_map];omega)
    rw[show((5:Nat)==5)=true from rfl,h5]at hq
    refine⟨_::gs,⟨hq,h6⟩,?_⟩
    simp only[List.map_cons,ZI,ZC,Bool.false_and,h7,List.map_append]
    simp
 end
theorem ZV.num{n:Nat}{c:List Tok}{r:ze}{b:List Tok}(h:ZV n c (.ok r b)):n≠20:=by
 cases h with
 |ok _ _ a _=>exact a
theorem ZU.len{n:Nat}{f:List Tok}{g:List ze}(h:ZU n f (.ok g))(j:n<=20):g≠[]/\n+g.length<=20:=by
 generalize b:(Except.ok g:Except (Nat×Nat) (List ze))=k at h;induction h generalizing g with
 |last a d=>cases b;have:=a.num;exact⟨by simp,by simp;omega⟩|more a d _ e=>cases b;have i:=a.num;have c:=e (by omega) rfl;refine⟨by simp,?_⟩;have:=c.2;simp only[List.length_cons];omega|err a=>cases b|later _ _ _ _=>cases b
theorem zd5(S:ST)(k:Nat)(a:z7):(S.term k a).xs.length<=S.xs.length+1:=by rw[VX];split<;>simp
theorem UM(S:ST)(e:RE):(S.lay e).xs.length<=S.xs.length+2:=by unfold ST.lay;refine Nat.le_trans (zd5 _ _ _) ?_;simp[ST.add]
theorem ze0(S:ST)(b:z7):(S.behind b).xs.length<=S.xs.length+1:=by unfold ST.behind;simp only[];split<;>simp[ST.add,ST.setTop]
theorem zcu(S:ST):S.rule.xs.length<=S.xs.length+2:=by
 unfold ST.rule;split;·omega
 ·simp only[Vt];omega
theorem zdS(S:ST)(b:z7):(S.begin b).xs.length<=S.xs.length+2:=zcu S
theorem ziK{S b:ST}{c:UInt8}(a:S.signs c=.ok b):b.xs.length<=S.xs.length+3:=by
 unfold ST.signs at a;repeat' split at a
 all_goals first|cases a;done|(cases a;simp only[zcL];omega)|(cases a;simp only[];omega)|(cases a;have:=ze0 S [c];omega)|(cases a;have:=zd5 S.closed (S.xs.length+1) S.top.sign;rw[Vt]at this;omega)|(cases a;have:=UM S ⟨3,[],[],0,[]⟩;omega)
theorem ziz:∀(n:Nat) (f:List Tok),f.length<=n->∀S b,run f S=.ok b->b.xs.length<=S.xs.length+3 *n:=by
 intro n;induction n with
 |zero=>intro f e S b a;have:f=[]:=List.length_eq_zero_iff.1 (by omega);subst this;simp[run]at a
 |succ n g=>
  intro f e S b a;cases f with
  |nil=>simp[run]at a
  |cons t i=>
   simp at e;rw[run.eq_def]at a;simp only[]at a;cases d:t.kind with
   |bad=>simp only[d]at a;cases a
   |fin=>
    simp only[d]at a;split at a;·cases a
    ·cases a;have:=zcu S;omega
   |arrow=>simp only[d]at a;cases a
   |sign c=>
    simp only[d]at a;split at a;·cases a
    ·split at a;·cases a
     ·rename_i k l;have h:=ziK l;have:=g i e k b a;omega
   |lit=>
    simp only[d]at a;split at a;·cases a
    ·have h:=UM S (Zb t);have:=g i e _ b a;omega
   |cls=>
    simp only[d]at a;split at a;·cases a
    ·have h:=UM S (Zb t);have:=g i e _ b a;omega
   |name=>
    simp only[d]at a;cases i with
    |nil=>simp at a
    |cons m j=>
     simp only[]at a;simp at e;split at a
     ·split at a;·cases a
      ·split at a;·cases a
       ·have h:=zdS S t.text;have:=g j (by omega) _ b a;omega
     ·split at a;·cases a
      ·have h:=UM S (Zb t);have:=g (m::j) (by simp;omega) _ b a;omega
theorem qG:∀(n:Nat) (l:List UInt8) (a:Nat),l.length<=n->Wf (TL a l):=by
 intro n;induction n with
 |zero=>intro l a f;have:l=[]:=List.length_eq_zero_iff.1 (by omega);subst this;refine⟨by intro c h;simp[zM,blk]at h,?_⟩;simp[zM,blk,TK.last]
 |succ n i=>
  intro l a f;rw[K9];refine⟨?_,?_⟩;·intro c b;have:=qa (l.drop (blk false l));have e:(zM (l.drop (blk false l))).kind=(zG a l).kind:=rfl;rw[e,b]at this;exact this
  ·cases d:(zG a l).kind.last with
   |true=>simp|false=>simp only[Bool.false_eq_true,if_false];refine i _ _ ?_;have g:=Kl (l.drop (blk false l)) d;have e:(zG a l).size=(zM (l.drop (blk false l))).size:=rfl;rw[List.length_drop]at g|-;omega
theorem zV.names{d:List RE}:∀(a:List (z7×Nat)) (g:List ze),zV d a g->a.map (·.1)=zg g
 |[],[]=>λ_=>rfl
 |x::a,r::g=>λ⟨b,_,c⟩=>by have:=zV.names a g c;simp only[List.map_cons,zg]at this|-;rw[b,this]
 |[],_::_=>λh=>h.elim
 |_::_,[]=>λh=>h.elim
structure zts(g:List ze)(S:ST):Prop where
 den:zV S.xs S.rs g
 wx:Wx S
 bd:∀r∈S.rs,r.2<S.xs.length
 len:S.xs.length<=10000
 ne:g≠[]
 le:g.length<=20
 nc:∀r∈g,ncC r.choice<=2001
theorem zcf{l:List UInt8}{g:List ze}(h:Zs l (.ok g)):l.length<=2000/\∃a,run (TL 0 l) S0=.ok a/\zts g a:=by
 cases h with
 |read j c=>obtain⟨a,b,d⟩:=zbE c S0 [] (.inl ⟨rfl,rfl,rfl,by rw[YZ];exact qG _ l 0 (Nat.le_refl _)⟩) (by omega) (by simp);rw[YZ]at b;have e:=zdf l;rw[YZ]at e;obtain⟨m,n⟩:=ziA _ (TL 0 l) (Nat.le_refl _) _ _ Wx.zero b;have f:=ziz _ (TL 0 l) e _ _ b;have i:=c.len (by omega);simp only[List.nil_append]at d;refine⟨j,a,b,d,m,n,by simp[S0]at f;omega,i.1,by omega,λr k=> ?_⟩;have:=c.nc r k;rw[YZ]at this;omega
theorem zcd{l:List UInt8}{x:Nat×Nat}(h:Zs l (.error x)):(2000<l.length/\x=(1,0))\/(l.length<=2000/\run (TL 0 l) S0=.error x):=by
 cases h with
 |long a=>exact .inl ⟨a,rfl⟩|read a c=>have b:=zbE c S0 [] (.inl ⟨rfl,rfl,rfl,by rw[YZ];exact qG _ l 0 (Nat.le_refl _)⟩) (by omega) (by simp);exact .inr ⟨a,by rw[<-YZ];exact b⟩
theorem Wf.tail{t:Tok}{r:List Tok}(h:Wf (t::r))(a:t.kind.last=false):Wf r:=by have:=h.2;rw[if_neg (by simp[a])]at this;exact this
theorem zix:∀(n:Nat) (e:List Tok),e.length<=n->Wf e->∀S x,run e S=.error x->x.1≠0:=by
 intro n;induction n with
 |zero=>intro e f d;have:e=[]:=List.length_eq_zero_iff.1 (by omega);subst this;exact d.elim
 |succ n g=>
  intro e f d S x a;cases e with
  |nil=>exact d.elim
  |cons t h=>
   simp at f;rw[run.eq_def]at a;simp only[]at a;cases b:t.kind with
   |bad=>simp only[b]at a;cases a;simp
   |fin=>
    simp only[b]at a;split at a;·cases a;simp
    ·cases a
   |arrow=>simp only[b]at a;cases a;simp
   |sign c=>
    simp only[b]at a;split at a;·cases a;simp
    ·split at a;·rename_i r j;cases a;have:=zcK j;simp only[];omega
     ·rename_i l j;exact g h f (d.tail (by rw[b];rfl)) l x a
   |lit=>
    simp only[b]at a;split at a;·cases a;simp
    ·exact g h f (d.tail (by rw[b];rfl)) _ x a
   |cls=>
    simp only[b]at a;split at a;·cases a;simp
    ·exact g h f (d.tail (by rw[b];rfl)) _ x a
   |name=>
    simp only[b]at a;have i:=d.tail (by rw[b];rfl);cases h with
    |nil=>exact i.elim
    |cons m k=>
     simp only[]at a;simp at f;split at a
     ·rename_i o;split at a;·cases a;simp
      ·split at a;·cases a;simp
       ·have p:m.kind.last=false:=by cases q:m.kind<;>simp[q,TK.isArrow]at o<;>rfl
        exact g k (by omega) (i.tail p) _ x a
     ·split at a;·cases a;simp
      ·exact g (m::k) (by simp;omega) i _ x a
theorem zce{l:List UInt8}{x:Nat×Nat}(h:Zs l (.error x)):x.1≠0:=by
 rcases zcd h with⟨_,rfl⟩|⟨_,a⟩;·simp
 ·exact zix _ _ (Nat.le_refl _) (qG _ l 0 (Nat.le_refl _)) _ _ a
theorem zdh{a:List z7}{i:Nat}(c:i<a.length):Jp a i=true↔∃k,∃h:k<i,a[k]'(by omega)=a[i]:=by
 unfold Jp;rw[List.contains_iff_mem,List.getD_eq_getElem?_getD,List.getElem?_eq_getElem c,Option.getD_some,List.mem_iff_getElem];constructor;·rintro⟨k,b,h⟩;rw[List.length_take]at b;exact⟨k,by omega,by simpa using h⟩
 ·rintro⟨k,b,h⟩;exact⟨k,by simp;omega,by simpa using h⟩
inductive Nt where
 |nil
 |use (rule from_ to:Nat) (within:Nt)
 |pair (a b:Nt)
def jn:Nt->Nt->Nt
 | .nil,b=>b
 |a,.nil=>a
 |a,b=>.pair a b
abbrev Out:=Option (Nat×Nt)
inductive Ex where
 |P (p:zC)
 |Q (p:zC)
 |I (p:zC) (b:UInt8)
 |T (t:Term)
 |S (s:List Term) (acc:Nt)
 |C (c:List (List Term))
def QZ(i k:Nat):Out->Out
 |none=>N
 |some (e,m)=>if k<e then S (e,.use i k e m)else S (e,.nil)
def Q7(l:List zR)(c:UInt8):Bool:=l.any λs=>s.1<=c&&c<=s.2
def Qj(a:z7)(k:Nat)(f:UInt8->Bool):Out:=match a[k]? with|none=>N|some c=>if f c then S (k+1,.nil)else N
def Ya(a:z7)(k:Nat)(b:z7):Out:=if b.isPrefixOf (a.drop k)then S (k+b.length,.nil)else N
def Kg(k:Nat)(r:Out):Out:=S (r.getD (k,.nil))
def Ja(k:Nat)(w:Bool)(r:Out):Out:=if r.isSome==w then S (k,.nil)else N
inductive Ev(g:List ze)(inp:z7):Ex->Nat->Out->Prop
 |cnil {k}:Ev g inp (.C []) k none
 |chit {s c k x}:Ev g inp (.S s .nil) k (some x)->Ev g inp (.C (s::c)) k (some x)
 |cmiss {s c k r}:Ev g inp (.S s .nil) k none->Ev g inp (.C c) k r->Ev g inp (.C (s::c)) k r
 |snil {acc k}:Ev g inp (.S [] acc) k (some (k,acc))
 |sfail {t s acc k}:Ev g inp (.T t) k none->Ev g inp (.S (t::s) acc) k none
 |sstep {t s acc k e m r}:Ev g inp (.T t) k (some (e,m))->Ev g inp (.S s (jn acc m)) e r->Ev g inp (.S (t::s) acc) k r
 |tplain {p b k r}:Ev g inp (.I p b) k r->Ev g inp (.T (.mk 0 p b)) k r
 |tand {p b k r}:Ev g inp (.I p b) k r->Ev g inp (.T (.mk 38 p b)) k (Ja k true r)
 |tnot {p b k r}:Ev g inp (.I p b) k r->Ev g inp (.T (.mk 33 p b)) k (Ja k false r)
 |iplain {p k r}:Ev g inp (.P p) k r->Ev g inp (.I p 0) k r
 |imaybe {p k r}:Ev g inp (.P p) k r->Ev g inp (.I p 63) k (Kg k r)
 |istar {p k r}:Ev g inp (.Q p) k r->Ev g inp (.I p 42) k (Kg k r)
 |iplus {p k r}:Ev g inp (.Q p) k r->Ev g inp (.I p 43) k r
 |qno {p k}:Ev g inp (.P p) k none->Ev g inp (.Q p) k none
 |qlast {p k e m}:Ev g inp (.P p) k (some (e,m))->Ev g inp (.Q p) e none->Ev g inp (.Q p) k (some (e,m))
 |qmore {p k e m e2 m2}:Ev g inp (.P p) k (some (e,m))->Ev g inp (.Q p) e (some (e2,m2))->Ev g inp (.Q p) k (some (e2,jn m m2))
 |pname {b k r} (h:idx0 (zg g) b<g.length) (hc:(zg g).contains b=true):Ev g inp (.C g[idx0 (zg g) b].choice) k r->Ev g inp (.P (.name b)) k (QZ (idx0 (zg g) b) k r)
 |plit {b k} (h:b.length<=20):Ev g inp (.P (.lit b)) k (Ya inp k b)
 |pcls {l k} (h:l.length<=20):Ev g inp (.P (.cls l)) k (Qj inp k (Q7 l))
 |pany {k}:Ev g inp (.P .any) k (Qj inp k (λ_=>true))
 |pgroup {c k r}:Ev g inp (.C c) k r->Ev g inp (.P (.group c)) k r
mutual
def QU(names:List z7)(E:List Bool):zC->Prop
  | .name b=>names.contains b=true
  | .lit b=>b≠[]/\b.length<=20
  | .cls l=>l.length<=20
  | .group c=>Jh names E c
  | .any=>True
def YT(names:List z7)(E:List Bool):Term->Prop
  | .mk a p b=>(a=0\/a=38\/a=33)/\(b=0\/b=63\/b=42\/b=43)/\QU names E p/\((b=42\/b=43)->Ze (Eb names E) p=false)
def Ym(names:List z7)(E:List Bool):List Term->Prop
  |[]=>True
  |t::s=>YT names E t/\Ym names E s
def Jh(names:List z7)(E:List Bool):List (List Term)->Prop
  |[]=>True
  |s::c=>Ym names E s/\Jh names E c
 end
def Y8(a:List z7)(E:List Bool):Ex->Prop
 | .P p=>QU a E p
 | .Q p=>QU a E p
 | .I p _=>QU a E p
 | .T t=>YT a E t
 | .S s _=>Ym a E s
 | .C c=>Jh a E c
def J7(F:z7->Bool):Ex->Bool
 | .P p=>Ze F p
 | .Q p=>Ze F p
 | .I p b=>(b==63||b==42)||Ze F p
 | .T t=>Zu F t
 | .S s _=>ZH F s
 | .C c=>Zl F c
structure JF(g:List ze)(E:List Bool):Prop where
 good:∀i (h:i<g.length),Jh (zg g) E g[i].choice
 shut:QP (zg g) g E
 left:Ks (zg g) E g none
 pos:0<g.length
theorem Ul{a:z7}{k e:Nat}{f:UInt8->Bool}{m:Nt}(h:Qj a k f=S (e,m)):e=k+1/\e<=a.length:=by
 unfold Qj at h;split at h;·cases h
 ·rename_i c b;have:=(List.getElem?_eq_some_iff.1 b).1;split at h;·cases h;exact⟨rfl,by omega⟩
  ·cases h
theorem zbL{a:z7}{k e:Nat}{b:z7}{m:Nt}(d:k<=a.length)(h:Ya a k b=S (e,m)):e=k+b.length/\e<=a.length:=by
 unfold Ya at h;split at h;·rename_i c;cases h;have:=(List.isPrefixOf_iff_prefix.1 c).length_le;rw[List.length_drop]at this;exact⟨rfl,by omega⟩
 ·cases h
theorem Ev.le{g:List ze}{j:z7}{x:Ex}{k:Nat}{r:Out}(h:Ev g j x k r):k<=j.length->∀e m,r=S (e,m)->k<=e/\e<=j.length:=by
 induction h with
 |cnil=>intro _ e m h;cases h|chit _ c=>intro a e m h;exact c a e m h|cmiss _ _ _ c=>intro a e m h;exact c a e m h|snil=>intro a e m h;cases h;exact⟨Nat.le_refl _,a⟩|sfail=>intro _ e m h;cases h|sstep _ _ d i=>intro a e m h;have f:=d a _ _ rfl;have n:=i f.2 e m h;omega|tplain _ c=>exact c|tand _ c=>intro a e m h;unfold Ja at h;split at h<;>cases h;exact⟨Nat.le_refl _,a⟩|tnot _ c=>intro a e m h;unfold Ja at h;split at h<;>cases h;exact⟨Nat.le_refl _,a⟩|iplain _ c=>exact c
 |@imaybe p k r _ c=>
  intro a e m h;cases r with
  |none=>cases h;exact⟨Nat.le_refl _,a⟩|some x=>exact c a e m h
 |@istar p k r _ c=>
  intro a e m h;cases r with
  |none=>cases h;exact⟨Nat.le_refl _,a⟩|some x=>exact c a e m h
 |iplus _ c=>exact c|qno=>intro _ e m h;cases h|qlast _ _ d _=>exact d|qmore _ _ d i=>intro a e m h;have f:=d a _ _ rfl;cases h;have n:=i f.2 _ _ rfl;omega
 |@pname b k r h q _ c=>
  intro a e m h;cases r with
  |none=>cases h|some x=>obtain⟨l,o⟩:=x;have:=c a l o rfl;unfold QZ at h;simp only[]at h;split at h<;>cases h<;>exact this
 |plit=>intro a e m h;have:=zbL a h;omega|pcls=>intro a e m h;have:=Ul h;omega|pany=>intro a e m h;have:=Ul h;omega|pgroup _ c=>exact c
theorem zgF{i k e:Nat}{r:Out}{m:Nt}(h:QZ i k r=S (e,m)):∃a,r=S (e,a):=by
 cases r with
 |none=>cases h|some x=>obtain⟨b,a⟩:=x;unfold QZ at h;simp only[]at h;split at h<;>cases h<;>exact⟨_,rfl⟩
theorem Ev.empty{g:List ze}{t:z7}{E:List Bool}(p:JF g E){x:Ex}{k:Nat}{r:Out}(h:Ev g t x k r):k<=t.length->Y8 (zg g) E x->∀m,r=S (k,m)->J7 (Eb (zg g) E) x=true:=by
 induction h with
 |cnil=>intro _ _ m h;cases h|chit _ d=>intro c a m h;simp only[Y8,Jh]at a;have:=d c a.1 m h;simp only[J7,Zl]at *;rw[this];rfl|cmiss _ _ _ d=>intro c a m h;simp only[Y8,Jh]at a;have:=d c a.2 m h;simp only[J7,Zl]at *;rw[this];simp|snil=>intro _ _ m h;simp[J7,ZH]|sfail=>intro _ _ m h;cases h|sstep l n f s=>intro c a m h;simp only[Y8,Ym]at a;have i:=l.le c _ _ rfl;have o:=n.le i.2 _ _ h;have j:_=_:=Nat.le_antisymm o.1 i.1;subst j;have u:=f c a.1 _ rfl;have v:=s c a.2 _ h;simp only[J7,ZH]at *;rw[u,v];rfl|tplain _ d=>intro c a m h;simp only[Y8,YT]at a;have:=d c a.2.2.1 m h;simp only[J7,Zu]at *;simpa using this|tand _ d=>intro _ _ m h;simp[J7,Zu]|tnot _ d=>intro _ _ m h;simp[J7,Zu]|iplain _ d=>intro c a m h;have:=d c a m h;simp only[J7]at *;simpa using this|imaybe _ d=>intro _ _ m h;simp[J7]|istar _ d=>intro _ _ m h;simp[J7]|iplus _ d=>intro c a m h;have:=d c a m h;simp only[J7]at *;simpa using this|qno=>intro _ _ m h;cases h|qlast _ _ f _=>exact f|qmore l n f s=>intro c a m h;have i:=l.le c _ _ rfl;have o:=n.le i.2 _ _ rfl;cases h;have j:_=_:=Nat.le_antisymm o.1 i.1;subst j;exact f c a _ rfl|@pname b k r q y _ d=>intro c a m h;obtain⟨w,rfl⟩:=zgF h;have:=d c (p.good _ q) w rfl;exact p.shut _ q this
 |@plit b k _=>intro c a m h;have:=(zbL c h).1;simp only[Y8,QU]at a;have:b.length≠0:=λe=>a.1 (List.length_eq_zero_iff.1 e);omega
 |pcls=>intro c a m h;have:=(Ul h).1;omega|pany=>intro c a m h;have:=(Ul h).1;omega|pgroup _ d=>exact d
def Tot(g:List ze)(a:z7)(x:Ex)(k:Nat):Prop:=∃r,Ev g a x k r
def Past(g:List ze)(b:z7)(k:Nat):Prop:=∀a,k<a->a<=b.length->∀i (h:i<g.length),Tot g b (.C g[i].choice) a
def At(g:List ze)(a:z7)(l:List z7)(k:Nat):Prop:=∀b∈l,∀(h:idx0 (zg g) b<g.length),Tot g a (.C g[idx0 (zg g) b].choice) k
theorem Past.next{g:List ze}{a:z7}{k b:Nat}(h:Past g a k)(f:k<=b):Past g a b:=λj e d i c=>h j (by omega) d i c
theorem Past.at_{g:List ze}{b:z7}{k a:Nat}(h:Past g b k)(d:k<a)(e:a<=b.length)(l:List z7):At g b l a:=λ_ _ c=>h a d e _ c
theorem zaA{g:List ze}{a:z7}{E:List Bool}(h:JF g E){p:zC}(j:QU (zg g) E p)(i:Ze (Eb (zg g) E) p=false)(o:∀k,k<=a.length->At g a (Zy (Eb (zg g) E) p) k->Past g a k->Tot g a (.P p) k):∀n k,a.length-k<=n->k<=a.length->At g a (Zy (Eb (zg g) E) p) k->Past g a k->Tot g a (.Q p) k
 |n,k,t,c,q,d=>by
  obtain⟨r,b⟩:=o k c q d;cases r with
  |none=>exact⟨_,.qno b⟩
  |some x=>
   obtain⟨e,m⟩:=x;have l:=b.le c _ _ rfl;have u:e≠k:=by rintro rfl;have:=b.empty h c j m rfl;simp only[J7]at this;rw[i]at this;cases this
   cases n with
   |zero=>omega
   |succ n=>
    obtain⟨s,f⟩:=zaA h j i o n e (by omega) l.2 (d.at_ (by omega) l.2 _) (d.next (by omega));cases s with
    |none=>exact⟨_,.qlast b f⟩|some y=>exact⟨_,.qmore (e2:=y.1) (m2:=y.2) b f⟩
mutual
theorem zji{g:List ze}{inp:z7}{E:List Bool}(hE:JF g E):∀(p:zC) (k:Nat),QU (zg g) E p->k<=inp.length->At g inp (Zy (Eb (zg g) E) p) k->Past g inp k->Tot g inp (.P p) k
  | .name b,k=>by
    intro hg hk ha hp
    have hl:idx0 (zg g) b<g.length:=by
      have:=YU (names:=zg g) b (by rw[Q8];exact hE.pos)
      rw[Q8]at this;exact this
    obtain⟨r,hr⟩:=ha b (by simp[Zy]) hl
    simp only[QU]at hg
    exact⟨_,.pname hl hg hr⟩
  | .lit b,k=>λhg _ _ _=>⟨_,.plit (by simp only[QU]at hg;exact hg.2)⟩
  | .cls l,k=>λhg _ _ _=>⟨_,.pcls (by simp only[QU]at hg;exact hg)⟩
  | .any,k=>λ_ _ _ _=>⟨_,.pany⟩
  | .group c,k=>by
    intro hg hk ha hp
    simp only[QU]at hg
    simp only[Zy]at ha
    obtain⟨r,hr⟩:=V2 hE c k hg hk ha hp
    exact⟨_,.pgroup hr⟩
theorem zjj{g:List ze}{inp:z7}{E:List Bool}(hE:JF g E):∀(t:Term) (k:Nat),YT (zg g) E t->k<=inp.length->At g inp (JR (Eb (zg g) E) t) k->Past g inp k->Tot g inp (.T t) k
  | .mk a p b,k=>by
    intro hg hk ha hp
    simp only[YT]at hg
    simp only[JR]at ha
    obtain⟨h1,h2,h3,h4⟩:=hg
    have ih:=λ(k:Nat) (hk:k<=inp.length) (ha:At g inp (Zy (Eb (zg g) E) p) k) (hp:Past g inp k)=>zji hE p k h3 hk ha hp
    have hI:Tot g inp (.I p b) k:=by
      rcases h2 with rfl|rfl|rfl|rfl
      · obtain⟨r,hr⟩:=ih k hk ha hp
        exact⟨_,.iplain hr⟩
      · obtain⟨r,hr⟩:=ih k hk ha hp
        exact⟨_,.imaybe hr⟩
      · obtain⟨r,hr⟩:=zaA hE h3 (h4 (.inl rfl)) ih _ k (Nat.le_refl _) hk ha hp
        exact⟨_,.istar hr⟩
      · obtain⟨r,hr⟩:=zaA hE h3 (h4 (.inr rfl)) ih _ k (Nat.le_refl _) hk ha hp
        exact⟨_,.iplus hr⟩
    obtain⟨r,hr⟩:=hI
    rcases h1 with rfl|rfl|rfl
    · exact⟨_,.tplain hr⟩
    · exact⟨_,.tand hr⟩
    · exact⟨_,.tnot hr⟩
theorem zaB{g:List ze}{inp:z7}{E:List Bool}(hE:JF g E):∀(s:List Term) (acc:Nt) (k:Nat),Ym (zg g) E s->k<=inp.length->At g inp (Q2 (Eb (zg g) E) s) k->Past g inp k->Tot g inp (.S s acc) k
  |[],acc,k=>λ_ _ _ _=>⟨_,.snil⟩
  |t::s,acc,k=>by
    intro hg hk ha hp
    simp only[Ym]at hg
    simp only[Q2]at ha
    obtain⟨r,hr⟩:=zjj hE t k hg.1 hk (λb hb=>ha b (List.mem_append_left _ hb)) hp
    cases r with
    |none=>exact⟨_,.sfail hr⟩
    |some x=>
      obtain⟨e,m⟩:=x
      have hle:=hr.le hk _ _ rfl
      by_cases hek:e=k
      · subst hek
        have hem:=hr.empty hE hk hg.1 m rfl
        simp only[J7]at hem
        obtain⟨r2,h2⟩:=zaB hE s (jn acc m) e hg.2 hk (λb hb=>ha b (List.mem_append_right _ (by rw[if_pos hem];exact hb))) hp
        exact⟨_,.sstep hr h2⟩
      · obtain⟨r2,h2⟩:=zaB hE s (jn acc m) e hg.2 hle.2 (hp.at_ (by omega) hle.2 _) (hp.next (by omega))
        exact⟨_,.sstep hr h2⟩
theorem V2{g:List ze}{inp:z7}{E:List Bool}(hE:JF g E):∀(c:List (List Term)) (k:Nat),Jh (zg g) E c->k<=inp.length->At g inp (ZC (Eb (zg g) E) c) k->Past g inp k->Tot g inp (.C c) k
  |[],k=>λ_ _ _ _=>⟨_,.cnil⟩
  |s::c,k=>by
    intro hg hk ha hp
    simp only[Jh]at hg
    simp only[ZC]at ha
    obtain⟨r,hr⟩:=zaB hE s .nil k hg.1 hk (λb hb=>ha b (List.mem_append_left _ hb)) hp
    cases r with
    |some x=>exact⟨_,.chit hr⟩
    |none=>
      obtain⟨r2,h2⟩:=V2 hE c k hg.2 hk (λb hb=>ha b (List.mem_append_right _ hb)) hp
      exact⟨_,.cmiss hr h2⟩
 end
def cnt(M:Mat)(n i:Nat):Nat:=((List.range n).filter (λj=>Wm M n i j)).length
theorem qV{α:Type}{f h:α->Bool}:∀(l:List α),(∀x∈l,f x=true->h x=true)->(∃x∈l,h x=true/\f x=false)->(l.filter f).length<(l.filter h).length
 |[],_,⟨x,c,_⟩=>by simp at c
 |a::l,g,⟨x,c,i,j⟩=>by
  have o:(l.filter f).length<=(l.filter h).length:=by
   clear i j c;induction l with
   |nil=>simp
   |cons b l k=>
    have m:=g b (by simp);have:=k (λx c=>g x (by simp at c|-;rcases c with h|h;exact .inl h;exact .inr (.inr h)));cases d:f b with
    |true=>rw[List.filter_cons_of_pos (by rw[d]),List.filter_cons_of_pos (m d)];simp;omega
    |false=>
     rw[List.filter_cons_of_neg (by rw[d];simp)];cases e:h b with
     |true=>rw[List.filter_cons_of_pos (by rw[e])];simp;omega|false=>rw[List.filter_cons_of_neg (by rw[e];simp)];exact this
  rcases List.mem_cons.1 c with rfl|n;·rw[List.filter_cons_of_neg (by rw[j];simp),List.filter_cons_of_pos i];simp;omega
  ·have k:=qV l (λx c=>g x (by simp[c])) ⟨x,n,i,j⟩;cases d:f a with
   |true=>rw[List.filter_cons_of_pos (by rw[d]),List.filter_cons_of_pos (g a (by simp) d)];simp;omega
   |false=>
    rw[List.filter_cons_of_neg (by rw[d];simp)];cases e:h a with
    |true=>rw[List.filter_cons_of_pos (by rw[e])];simp;omega|false=>rw[List.filter_cons_of_neg (by rw[e];simp)];exact k
theorem Vu{M:Mat}{n i j:Nat}(b:∀i,i<n->Wm M n i i=false)(a:j<n)(h:M i j=true):cnt M n j<cnt M n i:=by refine qV _ ?_ ⟨j,by simpa using a,Vh M n i j h,b j a⟩;intro x d c;exact Vi M n j i x a (Vh M n i j h) c
theorem zjk{g:List ze}{e:z7}{E:List Bool}(a:JF g E):∀n k,e.length-k<=n->k<=e.length->∀i (h:i<g.length),Tot g e (.C g[i].choice) k:=by
 intro n;induction n with
 |zero=>
  intro k t f;have j:Past g e k:=λq r p=>by omega
  suffices H:∀m i (h:i<g.length),cnt (Za (zg g) E g) g.length i<=m->Tot g e (.C g[i].choice) k fromλi h=>H _ i h (Nat.le_refl _)
  intro m;induction m with
  |zero=>intro i h l;refine V2 a _ k (a.good i h) f ?_ j;intro b d c;have hd:Za (zg g) E g i (idx0 (zg g) b)=true:=(KJ h (by rw[Q8];exact a.pos)).2 (List.mem_map.2 ⟨b,d,rfl⟩);have:=Vu a.left c hd;omega|succ m o=>intro i h l;refine V2 a _ k (a.good i h) f ?_ j;intro b d c;have hd:Za (zg g) E g i (idx0 (zg g) b)=true:=(KJ h (by rw[Q8];exact a.pos)).2 (List.mem_map.2 ⟨b,d,rfl⟩);have:=Vu a.left c hd;exact o _ c (by omega)
 |succ n u=>
  intro k t f;have j:Past g e k:=λq r p i s=>u q (by omega) p i s;suffices H:∀m i (h:i<g.length),cnt (Za (zg g) E g) g.length i<=m->Tot g e (.C g[i].choice) k fromλi h=>H _ i h (Nat.le_refl _)
  intro m;induction m with
  |zero=>intro i h l;refine V2 a _ k (a.good i h) f ?_ j;intro b d c;have hd:Za (zg g) E g i (idx0 (zg g) b)=true:=(KJ h (by rw[Q8];exact a.pos)).2 (List.mem_map.2 ⟨b,d,rfl⟩);have:=Vu a.left c hd;omega|succ m o=>intro i h l;refine V2 a _ k (a.good i h) f ?_ j;intro b d c;have hd:Za (zg g) E g i (idx0 (zg g) b)=true:=(KJ h (by rw[Q8];exact a.pos)).2 (List.mem_map.2 ⟨b,d,rfl⟩);have:=Vu a.left c hd;exact o _ c (by omega)
theorem qh{g:List ze}{inp:z7}{E:List Bool}(a:JF g E):∃r,Ev g inp (.C (g[0]'a.pos).choice) 0 r:=zjk a _ 0 (Nat.le_refl _) (Nat.zero_le _) 0 a.pos
mutual
def okP:zC->Prop
  | .lit b=>b≠[]/\b.length<=20
  | .cls l=>l.length<=20
  | .name b=>b.length<=12
  | .any=>True
  | .group c=>okC c
def okT:Term->Prop
  | .mk a p b=>(a=0\/a=38\/a=33)/\(b=0\/b=63\/b=42\/b=43)/\okP p
def okS:List Term->Prop
  |[]=>True
  |t::s=>okT t/\okS s
def okC:List (List Term)->Prop
  |[]=>True
  |s::c=>okS s/\okC c
 end
def zaf(t:Tok):Prop:=(t.kind=.lit->t.text≠[]/\t.text.length<=20)/\(t.kind=.cls->t.spans.length<=20)/\(t.kind=.name->t.text.length<=12)
def Q4(a:List Tok):Prop:=∀t∈a,zaf t
theorem Q4.tail{a:List Tok}(h:Q4 a):Q4 a.tail:=λt b=>h t (List.mem_of_mem_tail b)
theorem Q4.ahead{a:List Tok}(h:Q4 a):Q4 (Z9 a).2:=by
 unfold Z9;repeat' split
 all_goals first|exact h|exact h.tail
theorem Q4.behind{a:List Tok}(h:Q4 a):Q4 (Zg a).2:=by
 unfold Zg;repeat' split
 all_goals first|exact h|exact h.tail
theorem zdM(a:List Tok):(Z9 a).1=0\/(Z9 a).1=38\/(Z9 a).1=33:=by
 unfold Z9;repeat' split
 all_goals first|(rename_i h;exact .inr h)|exact .inl rfl
theorem zdZ(a:List Tok):(Zg a).1=0\/(Zg a).1=63\/(Zg a).1=42\/(Zg a).1=43:=by
 unfold Zg;repeat' split
 all_goals first|(rename_i h;exact .inr h)|exact .inl rfl
def OP1(b:List Tok)(r:Res zC):Prop:=Q4 b->∀p a,r=.ok p a->okP p/\Q4 a
def OP2(b:List Tok)(r:Res Term):Prop:=Q4 b->∀p a,r=.ok p a->okT p/\Q4 a
def OP3(b:List Tok)(r:Res Seq):Prop:=Q4 b->∀p a,r=.ok p a->okS p/\Q4 a
def OP4(b:List Tok)(r:Res Z5):Prop:=Q4 b->∀p a,r=.ok p a->okC p/\Q4 a
theorem zh0{b:List Tok}{p:zC}(h:zU (hd b)=S p):OP1 b (.ok p b.tail):=by
 intro c i j e;cases e;cases b with
 |nil=>simp[hd,zU,zB]at h
 |cons t b=>
  obtain⟨d,f,g⟩:=c t (by simp);refine⟨?_,c.tail⟩;simp only[hd,List.headD_cons]at h;unfold zU at h;split at h;·rename_i a;cases h;simp only[okP];exact g a
  ·rename_i a;cases h;simp only[okP];exact d a
  ·rename_i a;cases h;simp only[okP];exact f a
  ·split at h;·cases h;simp[okP]
   ·cases h
  ·cases h
theorem Z8.ok{d:Nat}{ts:List Tok}{c:Z5}{rest:List Tok}(h:Z8 d ts (.ok c rest))(a:Q4 ts):okC c/\Q4 rest:=by
 refine(Z8.rec (motive_1:=λ_ ts r _=>OP1 ts r) (motive_2:=λ_ ts r _=>OP2 ts r) (motive_3:=λ_ ts r _=>OP3 ts r) (motive_4:=λ_ ts r _=>OP4 ts r) ?_ ?_ ?_ ?_ ?_ ?_ ?_ ?_ ?_ ?_ ?_ ?_ ?_ ?_ ?_ ?_ h:OP4 ts (.ok c rest)) a c rest rfl;·intro d ts p h;exact zh0 h
 ·intro d ts h u a p rest e;cases e
 ·intro ts h a p rest e;cases e
 ·intro d ts c rest i j q v g a p o e;cases e;obtain⟨b,f⟩:=g a.tail _ _ rfl;exact⟨by simp only[okP];exact b,f.tail⟩
 ·intros;intro a p rest e;cases e
 ·intros;intro a p rest e;cases e
 ·intro d ts p rest h g a t o e;cases e;obtain⟨b,f⟩:=g a.ahead _ _ rfl;exact⟨by simp only[okT];exact⟨zdM ts,zdZ rest,b⟩,f.behind⟩
 ·intros;intro a p rest e;cases e
 ·intro d ts h a p rest e;cases e;exact⟨by simp[okS],a⟩
 ·intro d ts t rest s o i j q k l a p r e;cases e;obtain⟨b,f⟩:=k a _ _ rfl;obtain⟨m,n⟩:=l f _ _ rfl;exact⟨by simp only[okS];exact⟨b,m⟩,n⟩
 ·intros;intro a p rest e;cases e
 ·intros;intro a p rest e;cases e
 ·intro d ts s rest i j g a p r e;cases e;obtain⟨b,f⟩:=g a _ _ rfl;exact⟨by simp only[okC];exact⟨b,trivial⟩,f⟩
 ·intro d ts s rest c o i j q k l a p r e;cases e;obtain⟨b,f⟩:=k a _ _ rfl;obtain⟨m,n⟩:=l f.tail _ _ rfl;exact⟨by simp only[okC];exact⟨b,m⟩,n⟩
 ·intros;intro a p rest e;cases e
 ·intros;intro a p rest e;cases e
theorem zbk{l:z7}{n:Nat}{m:UInt8}{k:Nat}(h:ZX l n m k=true):1<=k/\k<=20:=by unfold ZX at h;simp at h;omega
theorem zj9(l:z7):zaf (zM l):=by
 have a:zaf zB:=⟨by simp[zB],by simp[zB],by simp[zB]⟩;cases l with
 |nil=>exact⟨by simp[zM],by simp[zM],by simp[zM]⟩
 |cons c t=>
  simp only[zM];split
  ·unfold Ql;split;·exact a
   ·refine⟨by simp,by simp,λ_=> ?_⟩;rw[List.length_take];omega
  ·split;·exact⟨by simp,by simp,by simp⟩
   ·split
    ·unfold Qv;split;·rename_i h;have:=zbk h;exact⟨λ_=>⟨λe=>by simp only[]at e;rw[e]at this;simp at this,this.2⟩,by simp,by simp⟩
     ·exact a
    ·split
     ·unfold QB;split;·rename_i h;exact⟨by simp,λ_=>(zbk h).2,by simp⟩
      ·exact a
     ·split;·exact⟨by simp,by simp,by simp⟩
      ·exact a
theorem zdc:∀(f b:Nat) (l:z7),Q4 (QC f b l)
 |0,_,_=>by intro t a;simp[QC]at a
 |f+1,b,l=>by
  intro t a;simp only[QC,List.mem_cons]at a;rcases a with rfl|a;·exact zj9 _
  ·split at a;·simp at a
   ·exact zdc f _ _ t a
theorem ZV.ok'{n:Nat}{a:List Tok}{r:ze}{d:List Tok}(h:ZV n a (.ok r d))(c:Q4 a):okC r.choice/\r.name.length<=12/\Q4 d:=by
 cases h with
 |ok b _ _ e=>
  obtain⟨f,g⟩:=e.ok c.tail.tail;refine⟨f,?_,g⟩;cases a with
  |nil=>simp[hd,zB]at b|cons t a=>simp only[hd,List.headD_cons]at b|-;exact(c t (by simp)).2.2 b
theorem ZU.ok'{n:Nat}{f:List Tok}{g:List ze}(h:ZU n f (.ok g))(e:Q4 f):∀r∈g,okC r.choice/\r.name.length<=12:=by
 generalize c:(Except.ok g:Except (Nat×Nat) (List ze))=k at h;induction h generalizing g with
 |last b i=>cases c;intro r a;simp only[List.mem_singleton]at a;subst a;have:=b.ok' e;exact⟨this.1,this.2.1⟩
 |more b i _ j=>
  cases c;intro r a;have d:=b.ok' e;rcases List.mem_cons.1 a with rfl|a;·exact⟨d.1,d.2.1⟩
  ·exact j d.2.2 rfl r a
 |err b=>cases c|later _ _ _ _=>cases c
mutual
theorem zf2{names:List z7}{E:List Bool}:∀p:zC,okP p->Zi (zv names) p=false->(∀b,p=.name b->names.contains b=true)->Zi (zJ (Eb names E)) p=false->QU names E p
  | .name b=>by intro _ _ h _;simp only[QU];exact h b rfl
  | .lit b=>by intro h _ _ _;simp only[okP]at h;simp only[QU];exact h
  | .cls l=>by intro h _ _ _;simp only[okP]at h;simp only[QU];exact h
  | .any=>by intro _ _ _ _;simp[QU]
  | .group c=>by
    intro h h1 _ h2
    simp only[okP]at h
    simp only[Zi]at h1 h2
    simp only[QU]
    exact qZ c h h1 h2
theorem zf3{names:List z7}{E:List Bool}:∀t:Term,okT t->ZG (zv names) t=false->ZG (zJ (Eb names E)) t=false->YT names E t
  | .mk a p b=>by
    intro h h1 h2
    obtain⟨f1,f2⟩:=KK h1
    simp only[okT]at h
    simp only[ZG,Bool.or_eq_false_iff]at h2
    simp only[YT]
    refine⟨h.1,h.2.1,zf2 p h.2.2 f1 f2 h2.2,?_⟩
    intro hb
    have:=h2.1
    simp only[zJ,Term.behind,Term.piece]at this
    rcases hb with rfl|rfl<;>simpa using this
theorem zbD{names:List z7}{E:List Bool}:∀s:List Term,okS s->Zc (zv names) s=false->Zc (zJ (Eb names E)) s=false->Ym names E s
  |[]=>by intro _ _ _;simp[Ym]
  |t::s=>by
    intro h h1 h2
    simp only[okS]at h
    simp only[Zc,Bool.or_eq_false_iff]at h1 h2
    simp only[Ym]
    exact⟨zf3 t h.1 h1.1 h2.1,zbD s h.2 h1.2 h2.2⟩
theorem qZ{names:List z7}{E:List Bool}:∀c:List (List Term),okC c->zx (zv names) c=false->zx (zJ (Eb names E)) c=false->Jh names E c
  |[]=>by intro _ _ _;simp[Jh]
  |s::c=>by
    intro h h1 h2
    simp only[okC]at h
    simp only[zx,Bool.or_eq_false_iff]at h1 h2
    simp only[Jh]
    exact⟨zbD s h.1 h1.1 h2.1,qZ c h.2 h1.2 h2.2⟩
 end
theorem Zo.ok'{l:List UInt8}{g:List ze}{E:List Bool}(h:Zo l (.ok (g,E))):∀r∈g,okC r.choice/\r.name.length<=12:=by
 cases h with
 |ok h _=>
  cases h with
  |read b a=>exact a.ok' (zdc _ _ _)
theorem Zo.ends{l:List UInt8}{g:List ze}{E:List Bool}(h:Zo l (.ok (g,E))):JF g E:=by
 have k:=h.ok';cases h with
 |ok m b=>
  cases b with
  |ok n c o d p e f=>
   refine⟨λi a=>qZ _ (k _ (List.getElem_mem a)).1 (c i a) (e i a),d,f,?_⟩;cases m with
   |read b j=>exact List.length_pos_iff.2 (j.len (by omega)).1
inductive Nd where
 |choice (ks:List Nat)
 |seq (ks:List Nat)
 |ahead (k:Nat) (wanted:Bool)
 |maybe (k:Nat)
 |plus (k:Nat)
 |name (i:Nat)
 |lit (b:z7)
 |cls (l:List zR)
 |any
abbrev NEv:=Nat->Nat->Option Out
def chN(F:NEv):List Nat->Nat->Option Out
 |[],_=>some none
 |j::js,k=>match F j k with
  |none=>none
  |some none=>chN F js k
  |some (some x)=>some (some x)
def sqN(F:NEv):List Nat->Nat->Nt->Option Out
 |[],k,acc=>some (some (k,acc))
 |j::js,k,acc=>match F j k with
  |none=>none
  |some none=>some none
  |some (some x)=>sqN F js x.1 (jn acc x.2)
def plN(F:NEv)(n j k:Nat):Option Out:=match F j k with|none=>N|some N=>S N|some (S x)=>match F n x.1 with|none=>N|some N=>S (S x)|some (S y)=>S (S (y.1,jn x.2 y.2))
def Zx(rules:List Nat)(inp:z7)(F:NEv)(n k:Nat):Nd->Option Out
 | .choice ks=>chN F ks k
 | .seq ks=>sqN F ks k .nil
 | .ahead j w=>(F j k).map (Ja k w)
 | .maybe j=>(F j k).map (Kg k)
 | .plus j=>plN F n j k
 | .name i=>match rules[i]? with
  |none=>none
  |some j=>(F j k).map (QZ i k)
 | .lit b=>some (Ya inp k b)
 | .cls l=>some (Qj inp k (Q7 l))
 | .any=>some (Qj inp k (λ_=>true))
def evN(N':List Nd)(rules:List Nat)(inp:z7):Nat->NEv
 |0,_,_=>none
 |f+1,n,k=>match N'[n]? with
  |none=>none
  |some d=>Zx rules inp (evN N' rules inp f) n k d
def LeN(F G:NEv):Prop:=∀i k v,F i k=S v->G i k=S v
theorem zb9{F G:NEv}(h:LeN F G):∀a k v,chN F a k=S v->chN G a k=S v
 |[],k,v,e=>e
 |j::a,k,v,e=>by
  simp only[chN]at e|-;cases hF:F j k with
  |none=>rw[hF]at e;cases e
  |some o=>
   rw[h j k o hF];rw[hF]at e;cases o with
   |none=>exact zb9 h a k v e|some x=>exact e
theorem zcU{F G:NEv}(h:LeN F G):∀b k a v,sqN F b k a=S v->sqN G b k a=S v
 |[],k,a,v,e=>e
 |j::b,k,a,v,e=>by
  simp only[sqN]at e|-;cases hF:F j k with
  |none=>rw[hF]at e;cases e
  |some o=>
   rw[h j k o hF];rw[hF]at e;cases o with
   |none=>exact e|some x=>exact zcU h b x.1 _ v e
theorem zhg{F G:NEv}(h:LeN F G){n j k:Nat}{v:Out}(e:plN F n j k=S v):plN G n j k=S v:=by
 unfold plN at e|-;cases hF:F j k with
 |none=>rw[hF]at e;cases e
 |some o=>
  rw[h j k o hF];rw[hF]at e;cases o with
  |none=>exact e
  |some x=>
   simp only[]at e|-;cases a:F n x.1 with
   |none=>rw[a]at e;cases e|some b=>rw[h n x.1 b a];rw[a]at e;exact e
theorem zac{F G:NEv}(h:LeN F G){j k:Nat}{t:Out->Out}{v:Out}(e:(F j k).map t=S v):(G j k).map t=S v:=by
 cases hF:F j k with
 |none=>rw[hF]at e;cases e|some o=>rw[h j k o hF];rw[hF]at e;exact e
theorem ze8{rules:List Nat}{c:z7}{F G:NEv}(h:LeN F G){n k:Nat}{d:Nd}{v:Out}(e:Zx rules c F n k d=S v):Zx rules c G n k d=S v:=by
 cases d with
 |choice f=>exact zb9 h _ _ _ e|seq f=>exact zcU h _ _ _ _ e|ahead j w=>exact zac h e|maybe j=>exact zac h e|plus j=>exact zhg h e
 |name i=>
  simp only[Zx]at e|-;cases a:rules[i]? with
  |none=>rw[a]at e;cases e|some j=>rw[a]at e;exact zac h e
 |lit b=>exact e|cls l=>exact e|any=>exact e
theorem zbv(N:List Nd)(rules:List Nat)(a:z7):∀f,LeN (evN N rules a f) (evN N rules a (f+1))
 |0=>by intro i k v h;simp[evN]at h
 |f+1=>by
  intro i k v h;simp only[evN]at h|-;cases b:N[i]? with
  |none=>rw[b]at h;cases h|some e=>rw[b]at h;exact ze8 (zbv N rules a f) h
theorem YQ{N:List Nd}{rules:List Nat}{a:z7}{f d:Nat}(e:f<=d):LeN (evN N rules a f) (evN N rules a d):=by
 induction d with
 |zero=>
  have:f=0:=by omega
  subst this;intro i k v h;exact h
 |succ d c=>
  by_cases h:f=d+1;·subst h;intro i k v h;exact h
  ·intro i k v b;exact zbv N rules a d i k v (c (by omega) i k v b)
theorem zbu{N:List Nd}{rules:List Nat}{c:z7}{f d i k:Nat}{v u:Out}(e:evN N rules c f i k=S v)(g:evN N rules c d i k=S u):v=u:=by have a:=YQ (Nat.le_max_left f d) i k v e;have b:=YQ (Nat.le_max_right f d) i k u g;rw[a]at b;exact Option.some.inj b
mutual
def DnP(N:List Nd)(names:List z7)(n:Nat):zC->Prop
  | .name b=>N[n]?=some (.name (Go.Proofs.YtiganlkabilblaaGreatDoor.idx0 names b))
  | .lit b=>N[n]?=some (.lit b)
  | .cls l=>N[n]?=some (.cls l)
  | .any=>N[n]?=some .any
  | .group c=>∃ks,N[n]?=some (.choice ks)/\DnC N names ks c
def DnT(N:List Nd)(names:List z7)(n:Nat):Term->Prop
  | .mk a p b=>∃i,(if a=0 then n=i else N[n]?=some (.ahead i (a==38)))/\(∃j,(if b=0 then i=j else if b=63 then N[i]?=some (.maybe j)else if b=43 then N[i]?=some (.plus j)else∃q,N[i]?=some (.maybe q)/\N[q]?=some (.plus j))/\DnP N names j p)
def DnS(N:List Nd)(names:List z7):List Nat->List Term->Prop
  |ks,[]=>ks=[]
  |ks,t::s=>∃k ks',ks=k::ks'/\DnT N names k t/\DnS N names ks' s
def DnC(N:List Nd)(names:List z7):List Nat->List (List Term)->Prop
  |qs,[]=>qs=[]
  |qs,s::c=>∃q qs' ks,qs=q::qs'/\N[q]?=some (.seq ks)/\DnS N names ks s/\DnC N names qs' c
 end
def DnI(N:List Nd)(a:List z7)(i:Nat)(p:zC)(b:UInt8):Prop:=∃j,(if b=0 then i=j else if b=63 then N[i]?=S (.maybe j)else if b=43 then N[i]?=S (.plus j)else∃q,N[i]?=S (.maybe q)/\N[q]?=S (.plus j))/\DnP N a j p
def DnR(N:List Nd)(rules:List Nat)(g:List ze):Prop:=rules.length=g.length/\∀i (h:i<g.length) (a:i<rules.length),DnP N (zg g) rules[i] (.group g[i].choice)
def ztv(N:List Nd)(rules:List Nat)(a:z7)(e:List z7):Ex->Nat->Out->Prop
 | .P p,k,r=>∀i,DnP N e i p->∃f,evN N rules a f i k=S r
 | .Q p,k,r=>∀q i,N[q]?=S (.plus i)->DnP N e i p->∃f,evN N rules a f q k=S r
 | .I p b,k,r=>∀i,DnI N e i p b->∃f,evN N rules a f i k=S r
 | .T t,k,r=>∀i,DnT N e i t->∃f,evN N rules a f i k=S r
 | .S s h,k,r=>∀g,DnS N e g s->∃f,∀d,f<=d->sqN (evN N rules a d) g k h=S r
 | .C c,k,r=>∀g,DnC N e g c->∃f,∀d,f<=d->chN (evN N rules a d) g k=S r
theorem J8{N:List Nd}{rules:List Nat}{a:z7}{i:Nat}{d:Nd}(h:N[i]?=S d)(f k:Nat):evN N rules a (f+1) i k=Zx rules a (evN N rules a f) i k d:=by simp only[evN,h]
theorem Ev.simN{g:List ze}{O:z7}{N:List Nd}{rules:List Nat}(K:DnR N rules g){x:Ex}{k:Nat}{r:Out}(h:Ev g O x k r):ztv N rules O (zg g) x k r:=by
 induction h with
 |cnil=>intro E hd;simp only[DnC]at hd;subst hd;exact⟨0,λd _=>rfl⟩|@chit s c k x _ o=>intro E hd;simp only[DnC]at hd;obtain⟨q,w,J,rfl,a,u,F⟩:=hd;obtain⟨f,n⟩:=o J u;refine⟨f+1,λd hd=> ?_⟩;obtain⟨y,rfl⟩:∃y,d=y+1:=⟨d-1,by omega⟩;simp only[chN];rw[J8 a];simp only[Zx];rw[n y (by omega)]
 |@cmiss s c k r _ _ B D=>intro E hd;simp only[DnC]at hd;obtain⟨q,w,J,rfl,a,u,F⟩:=hd;obtain⟨f,n⟩:=B J u;obtain⟨v,z⟩:=D w F;refine⟨max f v+1,λd hd=> ?_⟩;obtain⟨y,rfl⟩:∃y,d=y+1:=⟨d-1,by omega⟩;simp only[chN];rw[J8 a];simp only[Zx];rw[n y (by omega)];exact z (y+1) (by omega)
 |snil=>intro E hd;simp only[DnS]at hd;subst hd;exact⟨0,λd _=>rfl⟩|@sfail t s R k _ o=>intro E hd;simp only[DnS]at hd;obtain⟨q,w,rfl,a,u⟩:=hd;obtain⟨f,n⟩:=o q a;refine⟨f,λd hd=> ?_⟩;simp only[sqN];rw[YQ hd _ _ _ n]
 |@sstep t s R k e m r _ _ B D=>intro E hd;simp only[DnS]at hd;obtain⟨q,w,rfl,a,u⟩:=hd;obtain⟨f,n⟩:=B q a;obtain⟨v,z⟩:=D w u;refine⟨max f v,λd hd=> ?_⟩;simp only[sqN];rw[YQ (show f<=d by omega) _ _ _ n];exact z d (by omega)
 |@tplain p b k r _ o=>intro i hd;simp only[DnT]at hd;obtain⟨H,a,u⟩:=hd;rw[if_pos trivial]at a;subst a;exact o i u
 |@tand p b k r _ o=>intro i hd;simp only[DnT]at hd;obtain⟨H,a,u⟩:=hd;rw[if_neg (by decide)]at a;obtain⟨f,n⟩:=o H u;refine⟨f+1,?_⟩;rw[J8 a];simp only[Zx];rw[n];rfl
 |@tnot p b k r _ o=>intro i hd;simp only[DnT]at hd;obtain⟨H,a,u⟩:=hd;rw[if_neg (by decide)]at a;obtain⟨f,n⟩:=o H u;refine⟨f+1,?_⟩;rw[J8 a];simp only[Zx];rw[n];rfl
 |iplain _ o=>intro i hd;obtain⟨j,a,u⟩:=hd;rw[if_pos rfl]at a;subst a;exact o i u
 |@imaybe p k r _ o=>intro i hd;obtain⟨j,a,u⟩:=hd;rw[if_neg (by decide),if_pos rfl]at a;obtain⟨f,n⟩:=o j u;refine⟨f+1,?_⟩;rw[J8 a];simp only[Zx];rw[n];rfl
 |@istar p k r _ o=>intro i hd;obtain⟨j,a,u⟩:=hd;rw[if_neg (by decide),if_neg (by decide),if_neg (by decide)]at a;obtain⟨q,F,U⟩:=a;obtain⟨f,n⟩:=o q j U u;refine⟨f+1,?_⟩;rw[J8 F];simp only[Zx];rw[n];rfl
 |@iplus p k r _ o=>intro i hd;obtain⟨j,a,u⟩:=hd;rw[if_neg (by decide),if_neg (by decide),if_pos rfl]at a;exact o i j a u
 |qno _ o=>intro q i A hd;obtain⟨f,n⟩:=o i hd;refine⟨f+1,?_⟩;rw[J8 A];simp only[Zx,plN];rw[n]
 |@qlast p k e m _ _ B D=>intro q i A hd;obtain⟨f,n⟩:=B i hd;obtain⟨v,z⟩:=D q i A hd;refine⟨max f v+1,?_⟩;rw[J8 A];simp only[Zx,plN];rw[YQ (Nat.le_max_left f v) _ _ _ n];simp only[];rw[YQ (Nat.le_max_right f v) _ _ _ z]
 |@qmore p k e m X Z _ _ B D=>intro q i A hd;obtain⟨f,n⟩:=B i hd;obtain⟨v,z⟩:=D q i A hd;refine⟨max f v+1,?_⟩;rw[J8 A];simp only[Zx,plN];rw[YQ (Nat.le_max_left f v) _ _ _ n];simp only[];rw[YQ (Nat.le_max_right f v) _ _ _ z]
 |@pname b k r M Y _ o=>
  intro i hd;simp only[DnP]at hd;have L:idx0 (zg g) b<rules.length:=by rw[K.1];exact M
  have G:=K.2 _ M L;simp only[DnP]at G;obtain⟨w,V,W⟩:=G;obtain⟨f,n⟩:=o w W;refine⟨f+1+1,?_⟩;rw[J8 hd];simp only[Zx];rw[List.getElem?_eq_getElem L];simp only[];rw[J8 V];simp only[Zx];rw[n f (Nat.le_refl _)];rfl
 |@plit b k G=>intro i hd;simp only[DnP]at hd;exact⟨1,by rw[J8 hd];rfl⟩|@pcls l k G=>intro i hd;simp only[DnP]at hd;exact⟨1,by rw[J8 hd];rfl⟩|@pany k=>intro i hd;simp only[DnP]at hd;exact⟨1,by rw[J8 hd];rfl⟩|@pgroup c k r _ o=>intro i hd;simp only[DnP]at hd;obtain⟨w,a,u⟩:=hd;obtain⟨f,n⟩:=o w u;refine⟨f+1,?_⟩;rw[J8 a];exact n f (Nat.le_refl _)
end Go.Proofs.YtiganlkabilblaaGreatDoor
