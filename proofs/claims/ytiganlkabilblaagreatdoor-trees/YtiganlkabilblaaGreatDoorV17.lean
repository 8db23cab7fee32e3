import Derived.Test.YtiganlkabilblaaGreatDoorV07
import Derived.Test.YtiganlkabilblaaGreatDoorV14
import Derived.Test.YtiganlkabilblaaGreatDoorV00
import Derived.Test.YtiganlkabilblaaGreatDoorV09
set_option linter.all false
set_option maxHeartbeats 64000000
set_option maxRecDepth 100000
namespace Go.Proofs.YtiganlkabilblaaGreatDoor
theorem zdB (M:Mat):∀ (m i j:Nat),M i j=true→Wm M m i j=true
 | 0,_,_,h=>h
 | m+1,i,j,h=>by simp only[Wm];rw[zdB M m i j h];rfl
theorem zd9 (M:Mat):∀ (m k i j:Nat),k<m→Wm M m i k=true→Wm M m k j=true→Wm M m i j=true
 | 0,_,_,_,h,_,_=>by omega
 | m+1,k,i,j,hk,h1,h2=>by
  simp only[Wm,Bool.or_eq_true,Bool.and_eq_true] at h1 h2 ⊢
  rcases Nat.lt_or_ge k m with hkm | hkm
  ·rcases h1 with h1 | ⟨h1,h1'⟩<;>rcases h2 with h2 | ⟨h2,h2'⟩
   ·exact .inl (zd9 M m k i j hkm h1 h2)
   ·exact .inr ⟨zd9 M m k i m hkm h1 h2,h2'⟩
   ·exact .inr ⟨h1,zd9 M m k m j hkm h1' h2⟩
   ·exact .inr ⟨h1,h2'⟩
  ·have hkm':k=m:=by omega
   subst hkm'
   right
   constructor
   ·rcases h1 with h1 | ⟨h1,_⟩<;>exact h1
   ·rcases h2 with h2 | ⟨_,h2⟩<;>exact h2
theorem Wm_step (M:Mat) (n k i j:Nat) (hk:k<n) (h1:Wm M n i k=true) (h2:M k j=true):Wm M n i j=true:=zd9 M n k i j hk h1 (zdB M n k j h2)
theorem Wm_shut (M:Mat) (C:Nat→Prop) (hc:∀ j k,C j→M j k=true→C k):∀ (m i j:Nat),(∀ k,M i k=true→C k)→Wm M m i j=true→C j
 | 0,i,j,hi,h=>hi j h
 | m+1,i,j,hi,h=>by
  simp only[Wm,Bool.or_eq_true,Bool.and_eq_true] at h
  rcases h with h | ⟨h1,h2⟩
  ·exact Wm_shut M C hc m i j hi h
  ·have hm:=Wm_shut M C hc m i m hi h1
   exact Wm_shut M C hc m m j (fun k hk=>hc m k hm hk) h2
theorem Least.same {names:List Thk.Bytes} {g:List Thk.Rule} {E F:List Bool} (hE:zbc names g E) (hE':Least names g E) (hF:zbc names g F) (hF':Least names g F) (i:Nat):E.getD i false=F.getD i false:=by
 cases h1:E.getD i false with
 | true=>exact (hE' F hF i h1).symm
 | false=>
  cases h2:F.getD i false with
  | false=>rfl
  | true=>have:=hF' E hE i h2;rw[h1] at this;cases this
end Go.Proofs.YtiganlkabilblaaGreatDoor
namespace Go.Proofs.YtiganlkabilblaaGreatDoor
open Thk
def zas (xs:List RE) (names:List Bytes) (bodies:List Nat) (l:List Bool) (i:Nat):Bool:=
 match xs[i]? with
 | none=>false
 | some e=>
  if e.kind=1∨e.kind=2∨e.kind=3 then false
  else if e.kind=4 then names.contains e.text && l.getD (bodies.getD (names.idxOf e.text) 0) false
  else if e.kind=5 then e.parts.all fun k=>l.getD k false
  else if e.kind=6 then e.parts.any fun k=>l.getD k false
  else if e.kind=9 then l.getD (e.parts.headD 0) false
  else true
def CloL (xs:List RE) (names:List Bytes) (bodies:List Nat) (l:List Bool):Prop:=∀ i,zas xs names bodies l i=true→l.getD i false=true
def Eof (bodies:List Nat) (l:List Bool):List Bool:=bodies.map fun k=>l.getD k false
theorem Eof_get (bodies:List Nat) (l:List Bool) (i:Nat) (h:i<bodies.length):(Eof bodies l).getD i false=l.getD (bodies.getD i 0) false:=by
 simp[Eof,h]
theorem Eb_known {names:List Bytes} {bodies:List Nat} {l:List Bool} {b:Bytes} (hn:names.contains b=true) (hl:bodies.length=names.length):Eb names (Eof bodies l) b=l.getD (bodies.getD (names.idxOf b) 0) false:=by
 unfold Eb idx0
 rw[if_pos hn]
 exact Eof_get _ _ _ (by rw[hl];exact List.idxOf_lt_length_iff.2 (by simpa using hn))
mutual
theorem cloP {xs:List RE} {names:List Bytes} {bodies:List Nat} {l:List Bool} (hc:CloL xs names bodies l) (hl:bodies.length=names.length) {k:Nat}:∀ p:Piece,DenP xs k p→someP (unkT names) p=false→(∀ b,p = .name b→names.contains b=true)→zaw (Eb names (Eof bodies l)) p=true→l.getD k false=true
  | .name b=>by
    intro h _ hb he
    simp only[DenP] at h
    simp only[zaw] at he
    have hn:=hb b rfl
    rw[Eb_known hn hl] at he
    refine hc k ?_
    simp only[zas,h]
    simp at hn he ⊢
    exact⟨hn,he⟩
  | .lit b=>by intro _ _ _ he;simp[zaw] at he
  | .cls b=>by intro _ _ _ he;simp[zaw] at he
  | .any=>by intro _ _ _ he;simp[zaw] at he
  | .group c=>by
    intro h hu _ he
    simp only[DenP] at h
    obtain⟨qs,h1,h2⟩:=h
    simp only[someP] at hu
    simp only[zaw] at he
    refine hc k ?_
    simp only[zas,h1]
    simpa using cloC hc hl c h2 hu he
theorem cloT {xs:List RE} {names:List Bytes} {bodies:List Nat} {l:List Bool} (hc:CloL xs names bodies l) (hl:bodies.length=names.length) {k:Nat}:∀ t:Term,DenT xs k t→someT (unkT names) t=false→zaB (Eb names (Eof bodies l)) t=true→l.getD k false=true
  | .mk a p b=>by
    intro h hu he
    simp only[DenT] at h
    obtain⟨i,j,h1,h2,h3,h4,h5⟩:=h
    simp only[someT,Bool.or_eq_false_iff] at hu
    have hnm:∀ b',p = .name b'→names.contains b'=true:=by
      intro b' hp
      subst hp
      have:=hu.1
      simpa [unkT,Term.piece] using this
    simp only[zaB,Bool.or_eq_true] at he
    by_cases ha:a=0
    · rw[if_pos ha] at h1
      subst h1
      subst ha
      by_cases hb:b=0
      · rw[if_pos hb] at h2
        subst h2;subst hb
        refine cloP hc hl p h3 hu.2 hnm ?_
        simpa using he
      · rw[if_neg hb] at h2
        refine hc k ?_
        rcases h4 with rfl | rfl | rfl | rfl
        · exact absurd rfl hb
        · simp[zas,h2,wrapE,zae]
        · simp[zas,h2,wrapE,zae]
        · have hj:l.getD j false=true:=cloP hc hl p h3 hu.2 hnm (by simpa using he)
          simp only[zas,h2,wrapE,zae]
          simpa using hj
    · rw[if_neg ha] at h1
      refine hc k ?_
      rcases h5 with rfl | rfl | rfl
      · exact absurd rfl ha
      · simp[zas,h1,wrapE,zae]
      · simp[zas,h1,wrapE,zae]
theorem cloS {xs:List RE} {names:List Bytes} {bodies:List Nat} {l:List Bool} (hc:CloL xs names bodies l) (hl:bodies.length=names.length):∀ {ks:List Nat} (s:List Term),DenS xs ks s→someS (unkT names) s=false→zaL (Eb names (Eof bodies l)) s=true→ks.all (fun k=>l.getD k false)=true
  | ks,[]=>by
    intro h _ _
    simp only[DenS] at h
    subst h;rfl
  | ks,t::s=>by
    intro h hu he
    simp only[DenS] at h
    obtain⟨k,ks',rfl,h1,h2⟩:=h
    simp only[someS,Bool.or_eq_false_iff] at hu
    simp only[zaL,Bool.and_eq_true] at he
    rw[List.all_cons,cloT hc hl t h1 hu.1 he.1,cloS hc hl s h2 hu.2 he.2];rfl
theorem cloC {xs:List RE} {names:List Bytes} {bodies:List Nat} {l:List Bool} (hc:CloL xs names bodies l) (hl:bodies.length=names.length):∀ {qs:List Nat} (c:List (List Term)),DenC xs qs c→someC (unkT names) c=false→zaz (Eb names (Eof bodies l)) c=true→qs.any (fun k=>l.getD k false)=true
  | qs,[]=>by intro _ _ he;simp[zaz] at he
  | qs,s::c=>by
    intro h hu he
    simp only[DenC] at h
    obtain⟨q,qs',ks,rfl,h1,h2,h3⟩:=h
    simp only[someC,Bool.or_eq_false_iff] at hu
    simp only[zaz,Bool.or_eq_true] at he
    rw[List.any_cons]
    rcases he with he | he
    · have:=cloS hc hl s h2 hu.1 he
      rw[hc q (by simp only[zas,h1];simpa using this)];rfl
    · rw[cloC hc hl c h3 hu.2 he];simp
 end
def FndL (xs:List RE) (names:List Bytes) (g:List Rule) (l:List Bool):Prop:=∀ F,zbc names g F→∀ k,l.getD k false=true →
 (∀ p,DenP xs k p→zaw (Eb names F) p=true)∧(∀ t,DenT xs k t→zaB (Eb names F) t=true)∧(∀ ks s,xs[k]? = some ⟨5,[],[],0,ks⟩→DenS xs ks s→zaL (Eb names F) s=true)
theorem DenR.get {xs:List RE}:∀ (rs:List (Bytes × Nat)) (g:List Rule),DenR xs rs g→rs.length=g.length∧∀ i (h:i<g.length),(rs.map (·.1)).getD i []=g[i].name∧DenP xs ((rs.map (·.2)).getD i 0) (.group g[i].choice)
 | [],[]=>fun _=>⟨rfl,fun i h=>by simp at h⟩
 | x::rs,r::g=>fun ⟨h1,h2,h3⟩=>by
  obtain⟨e,ih⟩:=DenR.get rs g h3
  refine⟨by simp[e],fun i h=>?_⟩
  cases i with
  | zero=>exact⟨h1,h2⟩
  | succ i=>exact ih i (by simpa using h)
 | [],_::_=>fun h=>h.elim
 | _::_,[]=>fun h=>h.elim
theorem zeP {xs:List RE} {F:Bytes→Bool} {l:List Bool} (hT:∀ k,l.getD k false=true→∀ t,DenT xs k t→zaB F t=true):∀ {ks:List Nat} (s:List Term),DenS xs ks s→ks.all (fun k=>l.getD k false)=true→zaL F s=true
 | ks,[]=>fun _ _=>by simp[zaL]
 | ks,t::s=>by
  intro h ha
  simp only[DenS] at h
  obtain⟨k,ks',rfl,h1,h2⟩:=h
  rw[List.all_cons,Bool.and_eq_true] at ha
  simp only[zaL,hT k ha.1 t h1,zeP hT s h2 ha.2,Bool.and_self]
theorem zeO {xs:List RE} {F:Bytes→Bool} {l:List Bool} (hS:∀ k,l.getD k false=true→∀ ks s,xs[k]? = some ⟨5,[],[],0,ks⟩→DenS xs ks s→zaL F s=true):∀ {qs:List Nat} (c:List (List Term)),DenC xs qs c→qs.any (fun k=>l.getD k false)=true→zaz F c=true
 | qs,[]=>by
  intro h ha
  simp only[DenC] at h
  subst h;simp at ha
 | qs,s::c=>by
  intro h ha
  simp only[DenC] at h
  obtain⟨q,qs',ks,rfl,h1,h2,h3⟩:=h
  rw[List.any_cons,Bool.or_eq_true] at ha
  simp only[zaz,Bool.or_eq_true]
  rcases ha with ha | ha
  ·exact .inl (hS q ha ks s h1 h2)
  ·exact .inr (zeO hS c h3 ha)
theorem FndL.step {xs:List RE} {rs:List (Bytes × Nat)} {g:List Rule} {l:List Bool} {i:Nat} (hR:DenR xs rs g) (h:FndL xs (rs.map (·.1)) g l) (he:zas xs (rs.map (·.1)) (rs.map (·.2)) l i=true):FndL xs (rs.map (·.1)) g (l.set i true):=by
 intro F hF k hk
 obtain⟨hlen,hget⟩:=DenR.get rs g hR
 by_cases hik:k=i
 ·subst hik
  have hP:∀ p,DenP xs k p→zaw (Eb (rs.map (·.1)) F) p=true:=by
   intro p hp
   cases p with
   | name b=>
    simp only[DenP] at hp
    simp only[zas,hp] at he
    simp only[Nat.reduceEqDiff,or_self,if_false,if_true,Bool.and_eq_true] at he
    obtain⟨hn,hb⟩:=he
    have hi:(rs.map (·.1)).idxOf b<g.length:=by
     rw[← hlen,← List.length_map (f:=(·.1))];exact List.idxOf_lt_length_iff.2 (by simpa using hn)
    have h1:=(h F hF _ hb).1 _ (hget _ hi).2
    simp only[zaw] at h1
    have h2:=hF _ hi h1
    simp only[zaw]
    unfold Eb idx0
    rw[if_pos hn];exact h2
   | lit b=>simp only[DenP] at hp;simp[zas,hp] at he
   | cls b=>simp only[DenP] at hp;simp[zas,hp] at he
   | any=>simp only[DenP] at hp;simp[zas,hp] at he
   | group c=>
    simp only[DenP] at hp
    obtain⟨qs,h1,h2⟩:=hp
    simp only[zas,h1] at he
    simp only[Nat.reduceEqDiff,or_self,if_false,if_true] at he
    simp only[zaw]
    exact zeO (fun k hk=>(h F hF k hk).2.2) c h2 he
  refine⟨hP,?_,?_⟩
  ·rintro⟨a,p,b⟩ ht
   simp only[DenT] at ht
   obtain⟨i',j,h1,h2,h3,h4,h5⟩:=ht
   by_cases ha:a=0
   ·rw[if_pos ha] at h1
    subst h1;subst ha
    by_cases hb:b=0
    ·rw[if_pos hb] at h2
     subst h2;subst hb
     simp[zaB,hP p h3]
    ·rw[if_neg hb] at h2
     rcases h4 with rfl | rfl | rfl | rfl
     ·exact absurd rfl hb
     ·simp[zaB]
     ·simp[zaB]
     ·have hj:l.getD j false=true:=by simpa [zas,h2,wrapE,zae] using he
      simp[zaB,(h F hF j hj).1 p h3]
   ·simp[zaB,ha]
  ·intro ks s hx hs
   simp only[zas,hx] at he
   simp only[Nat.reduceEqDiff,or_self,if_false,if_true] at he
   exact zeP (fun k hk=>(h F hF k hk).2.1) s hs he
 ·refine h F hF k ?_
  rw[List.getD_eq_getElem?_getD,List.getElem?_set,if_neg (fun e=>hik e.symm)] at hk
  rw[List.getD_eq_getElem?_getD];exact hk
theorem FndL.none {xs:List RE} {names:List Bytes} {g:List Rule} (n:Nat):FndL xs names g (List.replicate n false):=by
 intro F _ k hk
 rw[List.getD_eq_getElem?_getD,List.getElem?_replicate] at hk
 split at hk<;>cases hk
theorem least_of {xs:List RE} {rs:List (Bytes × Nat)} {g:List Rule} {l:List Bool} (hR:DenR xs rs g) (hc:CloL xs (rs.map (·.1)) (rs.map (·.2)) l) (hf:FndL xs (rs.map (·.1)) g l) (hu:∀ i (h:i<g.length),someC (unkT (rs.map (·.1))) g[i].choice=false) :
  zbc (rs.map (·.1)) g (Eof (rs.map (·.2)) l)∧Least (rs.map (·.1)) g (Eof (rs.map (·.2)) l)∧(Eof (rs.map (·.2)) l).length=g.length:=by
 obtain⟨hlen,hget⟩:=DenR.get rs g hR
 refine⟨?_,?_,by simp[Eof,hlen]⟩
 ·intro i hi he
  rw[Eof_get _ _ _ (by simp[hlen,hi])]
  exact cloP hc (by simp) _ (hget i hi).2 (by simp only[someP];exact hu i hi) (by intro b hb;cases hb) (by simp only[zaw];exact he)
 ·intro F hF i hi
  by_cases hig:i<g.length
  ·rw[Eof_get _ _ _ (by simp[hlen,hig])] at hi
   have:=(hf F hF _ hi).1 _ (hget i hig).2
   simp only[zaw] at this
   exact hF i hig this
  ·exfalso
   rw[List.getD_eq_getElem?_getD,List.getElem?_eq_none (by simp[Eof,hlen];omega)] at hi
   cases hi
end Go.Proofs.YtiganlkabilblaaGreatDoor
namespace Thk
def RE.Fit (n:Nat) (e:RE):Prop:=(∀ p ∈ e.parts,p<n)∧(6<e.kind→∃ p,e.parts=[p])∧e.rule=0
theorem RE.Fit.mono {n m:Nat} {e:RE} (h:e.Fit n) (hm:n≤m):e.Fit m:=⟨fun p hp=>Nat.lt_of_lt_of_le (h.1 p hp) hm,h.2⟩
structure Wx (S:ST):Prop where
 ex:∀ e ∈ S.xs,e.Fit S.xs.length
 os:∀ o ∈ S.os,(∀ k ∈ o.terms,k<S.xs.length)∧∀ k ∈ o.seqs,k<S.xs.length
 rs:∀ r ∈ S.rs.dropLast,r.2<S.xs.length
theorem Wx.zero:Wx S0:=⟨by simp[S0],by simp[S0],by simp[S0]⟩
theorem Wx.top {S:ST} (h:Wx S):(∀ k ∈ S.top.terms,k<S.xs.length)∧∀ k ∈ S.top.seqs,k<S.xs.length:=by
 by_cases hne:S.os=[]
 ·simp[ST.top,hne]
 ·obtain⟨pre,o,h1,h2⟩:=zbo hne
  rw[h2];exact h.os o (by rw[h1];simp)
theorem Wx.add {S:ST} (h:Wx S) {e:RE} (he:e.Fit (S.xs.length+1)):Wx (S.add e):=by
 have hl:(S.add e).xs.length=S.xs.length+1:=by simp[ST.add]
 refine⟨?_,?_,?_⟩
 ·rw[hl]
  intro x hx
  rcases List.mem_append.1 hx with hx | hx
  ·exact (h.ex x hx).mono (by omega)
  ·simp only[List.mem_singleton] at hx
   subst hx;exact he
 ·rw[hl]
  intro o ho
  have:=h.os o ho
  exact⟨fun k hk=>by have:=this.1 k hk;omega,fun k hk=>by have:=this.2 k hk;omega⟩
 ·rw[hl]
  intro r hr
  have:=h.rs r hr
  omega
theorem Wx.setTop {S:ST} (h:Wx S) {o:OP} (h1:∀ k ∈ o.terms,k<S.xs.length) (h2:∀ k ∈ o.seqs,k<S.xs.length):Wx (S.setTop o):=by
 refine⟨h.ex,?_,h.rs⟩
 intro x hx
 rcases List.mem_append.1 hx with hx | hx
 ·exact h.os x (List.dropLast_subset _ hx)
 ·simp only[List.mem_singleton] at hx
  subst hx;exact⟨h1,h2⟩
theorem Wx.may {S:ST} (h:Wx S) (m:Bool):Wx { S with may:=m }:=⟨h.ex,h.os,h.rs⟩
theorem Wx.sgn {S:ST} (h:Wx S) (m:Bytes):Wx { S with sign:=m }:=⟨h.ex,h.os,h.rs⟩
theorem Wx.push {S:ST} (h:Wx S) {k:Nat} (hk:k<S.xs.length):Wx (S.push k):=by
 refine Wx.may (h.setTop (o:={ S.top with terms:=S.top.terms++[k] }) ?_ h.top.2) true
 intro x hx
 rcases List.mem_append.1 hx with hx | hx
 ·exact h.top.1 x hx
 ·simp only[List.mem_singleton] at hx
  subst hx;exact hk
theorem zes {n k e:Nat} (h:e<n):(wrapE k e).Fit n:=⟨by intro p hp;simp[wrapE] at hp;omega,fun _=>⟨e,rfl⟩,rfl⟩
theorem Wx.term {S:ST} (h:Wx S) {k:Nat} (hk:k<S.xs.length) (sg:Bytes):Wx (S.term k sg):=by
 unfold ST.term
 split
 ·exact h.push hk
 ·exact (h.add (zes (by omega))).push (by simp[ST.add])
theorem Wx.lay {S:ST} (h:Wx S) {e:RE} (he:e.Fit (S.xs.length+1)):Wx (S.lay e):=by
 unfold ST.lay
 exact Wx.term ((h.sgn []).add he) (by simp[ST.add]) _
theorem zdZ (t:Tok) (n:Nat):(zav t).Fit n:=by
 unfold zav RE.Fit
 split<;>simp
theorem Wx.behind {S:ST} (h:Wx S) (b:Bytes):Wx (S.behind b):=by
 unfold ST.behind
 simp only[]
 split
 ·rename_i hk
  by_cases hlt:S.top.terms.getLastD 0<S.xs.length
  ·have hx:S.xs.getD (S.top.terms.getLastD 0) RE.z=S.xs[S.top.terms.getLastD 0]:=by rw[List.getD_eq_getElem?_getD,List.getElem?_eq_getElem hlt];rfl
   rw[hx] at hk ⊢
   have hf:=h.ex _ (List.getElem_mem hlt)
   obtain⟨p,hp⟩:=hf.2.1 (by omega)
   have hpl:=hf.1 p (by rw[hp];simp)
   refine⟨?_,?_,?_⟩
   ·simp only[List.length_set,List.length_append,List.length_cons,List.length_nil]
    intro y hy
    rcases List.mem_or_eq_of_mem_set hy with hy | hy
    ·rcases List.mem_append.1 hy with hy | hy
     ·exact (h.ex y hy).mono (by omega)
     ·simp only[List.mem_singleton] at hy
      subst hy
      exact zes (by rw[hp];simp;omega)
    ·subst hy
     exact⟨by intro q hq;simp at hq;omega,fun _=>⟨_,rfl⟩,hf.2.2⟩
   ·simp only[List.length_set,List.length_append,List.length_cons,List.length_nil]
    intro o ho
    have:=h.os o ho
    exact⟨fun k hk=>by have:=this.1 k hk;omega,fun k hk=>by have:=this.2 k hk;omega⟩
   ·simp only[List.length_set,List.length_append,List.length_cons,List.length_nil]
    intro r hr
    have:=h.rs r hr
    omega
  ·have hx:S.xs.getD (S.top.terms.getLastD 0) RE.z=RE.z:=by
    rw[List.getD_eq_getElem?_getD,List.getElem?_eq_none (by omega)];rfl
   rw[hx] at hk
   simp[RE.z] at hk
 ·refine Wx.may (S:=(S.add (wrapE (zae b) (S.top.terms.getLastD 0))).setTop { S.top with terms:=S.top.terms.dropLast++[S.xs.length] }) ((h.add (zes ?_)).setTop ?_ ?_) false
  ·by_cases hn:S.top.terms=[]
   ·rw[hn];simp
   ·obtain⟨l,a,hla⟩:∃ l a,S.top.terms=l++[a]:=⟨_,_,(List.dropLast_concat_getLast hn).symm⟩
    have:=h.top.1 a (by rw[hla];simp)
    rw[hla,List.getLastD_concat];omega
  ·intro k hk
   rcases List.mem_append.1 hk with hk | hk
   ·have:=h.top.1 k (List.dropLast_subset _ hk)
    simp[ST.add];omega
   ·simp only[List.mem_singleton] at hk
    subst hk;simp[ST.add]
  ·intro k hk
   have:=h.top.2 k hk
   simp[ST.add];omega
theorem Wx.slash {S:ST} (h:Wx S):Wx S.slash:=by
 unfold ST.slash
 refine (h.add (e:=⟨5,[],[],0,S.top.terms⟩) ⟨fun p hp=>by have:=h.top.1 p hp;omega,by simp,rfl⟩).setTop (by simp) ?_
 intro k hk
 rcases List.mem_append.1 hk with hk | hk
 ·have:=h.top.2 k hk
  simp[ST.add];omega
 ·simp only[List.mem_singleton] at hk
  subst hk;simp[ST.add]
theorem Wx.less {S:ST} (h:Wx S) {os:List OP} (ho:∀ o ∈ os,o ∈ S.os∨(o.terms=[]∧o.seqs=[])):Wx { S with os:=os }:=by
 refine⟨h.ex,?_,h.rs⟩
 intro o h1
 rcases ho o h1 with h2 | ⟨h2,h3⟩
 ·exact h.os o h2
 ·rw[h2,h3];simp
theorem slash_len (S:ST):S.slash.xs.length=S.xs.length+1:=by simp[ST.slash,ST.setTop,ST.add]
theorem Wx.closed {S:ST} (h:Wx S):Wx S.closed:=by
 unfold ST.closed
 refine Wx.add (h.slash.less (os:=S.os.dropLast) ?_) ⟨?_,by simp,rfl⟩
 ·intro o ho
  left
  show o ∈ S.os.dropLast++_
  exact List.mem_append_left _ ho
 ·simp only[slash_len]
  intro p hp
  rcases List.mem_append.1 hp with hp | hp
  ·have:=h.top.2 p hp;omega
  ·simp only[List.mem_singleton] at hp
   omega
theorem zcg (S:ST):S.closed.xs.length=S.xs.length+2:=by simp[ST.closed,ST.slash,ST.setTop,ST.add]
theorem Wx.rule {S:ST} (h:Wx S):Wx S.rule∧∀ r ∈ S.rule.rs,r.2<S.rule.xs.length:=by
 unfold ST.rule
 split
 ·rename_i hr
  exact⟨h,by rw[hr];simp⟩
 ·have hc:=h.closed
  refine⟨⟨hc.ex,hc.os,?_⟩,?_⟩
  ·simp only[List.dropLast_concat,zcg]
   intro r hr
   have:=h.rs r hr;omega
  ·simp only[zcg]
   intro r hr
   rcases List.mem_append.1 hr with hr | hr
   ·have:=h.rs r hr;omega
   ·simp only[List.mem_singleton] at hr
    subst hr;simp
theorem Wx.begin {S:ST} (h:Wx S) (b:Bytes):Wx (S.begin b):=by
 obtain⟨h1,h2⟩:=h.rule
 refine⟨h1.ex,?_,?_⟩
 ·intro o ho
  rcases List.mem_append.1 ho with ho | ho
  ·exact h1.os o ho
  ·simp only[List.mem_singleton] at ho
   subst ho;simp
 ·simp only[ST.begin,List.dropLast_concat]
  exact h2
theorem Wx.signs {S S':ST} (h:Wx S) {c:UInt8} (hs:S.signs c = .ok S'):Wx S':=by
 unfold ST.signs at hs
 repeat' split at hs
 all_goals first
  | cases hs;done
  | (cases hs;exact h.slash.may false)
  | (cases hs;exact⟨h.ex,h.os,h.rs⟩)
  | (cases hs;exact h.behind _)
  | (cases hs;refine⟨h.ex,?_,h.rs⟩;intro o ho;rcases List.mem_append.1 ho with ho | ho;exact h.os o ho;simp only[List.mem_singleton] at ho;subst ho;simp)
  | (cases hs;exact h.closed.term (by rw[zcg];omega) _)
  | (cases hs;exact h.lay ⟨by simp,by simp,rfl⟩)
theorem run_wx:∀ (n:Nat) (ts:List Tok),ts.length≤n→∀ S S',Wx S→run ts S = .ok S'→Wx S'∧∀ r ∈ S'.rs,r.2<S'.xs.length:=by
 intro n
 induction n with
 | zero=>
  intro ts hl S S' _ hr
  have:ts=[]:=List.length_eq_zero_iff.1 (by omega)
  subst this
  simp[run] at hr
 | succ n ih=>
  intro ts hl S S' h hr
  cases ts with
  | nil=>simp[run] at hr
  | cons t rest=>
   simp at hl
   rw[run.eq_def] at hr
   simp only[] at hr
   cases hk:t.kind with
   | bad=>simp only[hk] at hr;cases hr
   | fin=>
    simp only[hk] at hr
    split at hr
    ·cases hr
    ·cases hr;exact h.rule
   | arrow=>simp only[hk] at hr;cases hr
   | sign c=>
    simp only[hk] at hr
    split at hr
    ·cases hr
    ·split at hr
     ·cases hr
     ·rename_i S1 hs
      exact ih rest hl S1 S' (h.signs hs) hr
   | lit=>
    simp only[hk] at hr
    split at hr
    ·cases hr
    ·exact ih rest hl _ S' (h.lay (zdZ _ _)) hr
   | cls=>
    simp only[hk] at hr
    split at hr
    ·cases hr
    ·exact ih rest hl _ S' (h.lay (zdZ _ _)) hr
   | name=>
    simp only[hk] at hr
    cases rest with
    | nil=>simp at hr
    | cons m rest'=>
     simp only[] at hr
     simp at hl
     split at hr
     ·split at hr
      ·cases hr
      ·split at hr
       ·cases hr
       ·exact ih rest' (by omega) _ S' (h.begin _) hr
     ·split at hr
      ·cases hr
      ·exact ih (m::rest') (by simp;omega) _ S' (h.lay (zdZ _ _)) hr
end Thk
namespace Go.Proofs.YtiganlkabilblaaGreatDoor
open Thk
def AllR {β : Type} (R:Nat→β→Prop):List Nat→List β→Prop
 | [],[]=>True
 | k::ks,b::bs=>R k b∧AllR R ks bs
 | _,_=>False
theorem AllR.len {β : Type} {R:Nat→β→Prop}:∀ {ks:List Nat} {bs:List β},AllR R ks bs→bs.length=ks.length
 | [],[],_=>rfl
 | _::_,_::_,h=>by simp[AllR.len h.2]
 | [],_::_,h=>h.elim
 | _::_,[],h=>h.elim
theorem AllR.get {β : Type} {R:Nat→β→Prop}:∀ {ks:List Nat} {bs:List β},AllR R ks bs→∀ i (h1:i<ks.length) (h2:i<bs.length),R ks[i] bs[i]
 | [],[],_,i,h1,_=>by simp at h1
 | _::_,_::_,h,0,_,_=>h.1
 | _::_,_::_,h,i+1,h1,h2=>AllR.get h.2 i (by simpa using h1) (by simpa using h2)
 | [],_::_,h,_,_,_=>h.elim
 | _::_,[],h,_,_,_=>h.elim
def hitX (names:List Bytes) (l:List Bool) (u:Bool) (e:RE):Bool:=
 (u && e.kind == 4 && !names.contains e.text) || (!u && (e.kind == 8 || e.kind == 9) && l.getD (e.parts.headD 0) false)
def hitP (names:List Bytes) (u:Bool):Piece→Bool
 | .name b=>u && !names.contains b
 | _=>false
def HT (names:List Bytes) (E:List Bool) (u:Bool):Term→Bool:=if u then unkT names else loopT (Eb names E)
def StepW (xs:List RE) (names:List Bytes) (l:List Bool) (u:Bool) (R:Nat→Bool→Prop):Prop:=
 ∀ k e bs,xs[k]? = some e→AllR R e.parts bs→R k (hitX names l u e || bs.any id)
def LP (xs:List RE) (names:List Bytes) (E l:List Bool):Prop:=(∀ j p,DenP xs j p→someP (unkT names) p=false→(∀ b,p = .name b→names.contains b=true)→l.getD j false=zaw (Eb names E) p)∧∀ j t,DenT xs j t→someT (unkT names) t=false→l.getD j false=zaB (Eb names E) t
theorem lp_of {xs:List RE} {rs:List (Bytes × Nat)} {g:List Rule} {l:List Bool} (hc:CloL xs (rs.map (·.1)) (rs.map (·.2)) l) (hf:FndL xs (rs.map (·.1)) g l) (hE:zbc (rs.map (·.1)) g (Eof (rs.map (·.2)) l)):LP xs (rs.map (·.1)) (Eof (rs.map (·.2)) l) l:=by
 refine⟨?_,?_⟩
 ·intro j p hd hu hn
  rw[Bool.eq_iff_iff]
  exact⟨fun h=>(hf _ hE j h).1 p hd,fun h=>cloP hc (by simp) p hd hu hn h⟩
 ·intro j t hd hu
  rw[Bool.eq_iff_iff]
  exact⟨fun h=>(hf _ hE j h).2.1 t hd,fun h=>cloT hc (by simp) t hd hu h⟩
theorem zc9 {names:List Bytes} {a b:UInt8} {p:Piece} (h:someT (unkT names) (.mk a p b)=false):someP (unkT names) p=false∧∀ b',p = .name b'→names.contains b'=true:=by
 simp only[someT,Bool.or_eq_false_iff] at h
 refine⟨h.2,?_⟩
 intro b' hp
 subst hp
 have:=h.1
 simpa [unkT,Term.piece] using this
mutual
theorem wiP {xs:List RE} {names:List Bytes} {E l:List Bool} {u:Bool} {R:Nat→Bool→Prop} (hl:u=false→LP xs names E l) (hR:StepW xs names l u R):∀ (p:Piece) {k:Nat},DenP xs k p→(u=false→someP (unkT names) p=false)→R k (hitP names u p || someP (HT names E u) p)
  | .name b,k=>by
    intro h _
    simp only[DenP] at h
    have:=hR k _ [] h (by simp[AllR])
    simpa [hitX,hitP,someP] using this
  | .lit b,k=>by
    intro h _
    simp only[DenP] at h
    have:=hR k _ [] h (by simp[AllR])
    simpa [hitX,hitP,someP] using this
  | .cls b,k=>by
    intro h _
    simp only[DenP] at h
    have:=hR k _ [] h (by simp[AllR])
    simpa [hitX,hitP,someP] using this
  | .any,k=>by
    intro h _
    simp only[DenP] at h
    have:=hR k _ [] h (by simp[AllR])
    simpa [hitX,hitP,someP] using this
  | .group c,k=>by
    intro h hu
    simp only[DenP] at h
    obtain⟨qs,h1,h2⟩:=h
    simp only[someP] at hu
    obtain⟨bs,h3,h4⟩:=wiC hl hR c h2 hu
    have:=hR k _ bs h1 h3
    rw[h4] at this
    simpa [hitX,hitP,someP] using this
theorem wiT {xs:List RE} {names:List Bytes} {E l:List Bool} {u:Bool} {R:Nat→Bool→Prop} (hl:u=false→LP xs names E l) (hR:StepW xs names l u R):∀ (t:Term) {k:Nat},DenT xs k t→(u=false→someT (unkT names) t=false)→R k (someT (HT names E u) t)
  | .mk a p b,k=>by
    intro h hu
    simp only[DenT] at h
    obtain⟨i,j,h1,h2,h3,h4,h5⟩:=h
    have hj:=wiP hl hR p h3 (fun e=>(zc9 (hu e)).1)
    have hi:R i (someT (HT names E u) (.mk a p b)):=by
      by_cases hb:b=0
      · rw[if_pos hb] at h2
        subst h2
        have key:someT (HT names E u) (.mk a p b)=(hitP names u p || someP (HT names E u) p):=by
          cases u with
          | true=>cases p<;>simp[someT,HT,hitP,unkT,Term.piece,someP]
          | false=>cases p<;>simp[someT,HT,hitP,loopT,Term.behind,hb]
        rw[key];exact hj
      · rw[if_neg hb] at h2
        have hq:=hR i _ [_] h2 ⟨hj,trivial⟩
        have key:someT (HT names E u) (.mk a p b)=(hitX names l u (wrapE (zae [b]) j) || [hitP names u p || someP (HT names E u) p].any id):=by
         cases u with
         | true=>cases p<;>simp[someT,HT,hitP,unkT,Term.piece,someP,hitX,wrapE,zae]<;>(repeat' split)<;>simp
         | false=>
          have hlj:=(hl rfl).1 j p h3 (zc9 (hu rfl)).1 (zc9 (hu rfl)).2
          have hP:hitP names false p=false:=by cases p<;>simp[hitP]
          rcases h4 with rfl | rfl | rfl | rfl
          · exact absurd rfl hb
          · simp[someT,HT,loopT,Term.behind,Term.piece,hitX,wrapE,zae,hP]
          · simp[someT,HT,loopT,Term.behind,Term.piece,hitX,wrapE,zae,hP,← hlj]
          · simp[someT,HT,loopT,Term.behind,Term.piece,hitX,wrapE,zae,hP,← hlj]
        rw[key];exact hq
    by_cases ha:a=0
    · rw[if_pos ha] at h1
      subst h1;exact hi
    · rw[if_neg ha] at h1
      have:=hR k _ [_] h1 ⟨hi,trivial⟩
      rcases h5 with rfl | rfl | rfl
      · exact absurd rfl ha
      · simpa [hitX,wrapE,zae] using this
      · simpa [hitX,wrapE,zae] using this
theorem wiS {xs:List RE} {names:List Bytes} {E l:List Bool} {u:Bool} {R:Nat→Bool→Prop} (hl:u=false→LP xs names E l) (hR:StepW xs names l u R):∀ (s:List Term) {ks:List Nat},DenS xs ks s→(u=false→someS (unkT names) s=false)→∃ bs,AllR R ks bs∧bs.any id=someS (HT names E u) s
  | [],ks=>by
    intro h _
    simp only[DenS] at h
    subst h
    exact⟨[],trivial,by simp[someS]⟩
  | t::s,ks=>by
    intro h hu
    simp only[DenS] at h
    obtain⟨k,ks',rfl,h1,h2⟩:=h
    have hu1:u=false→someT (unkT names) t=false∧someS (unkT names) s=false:=fun e=>by have:=hu e;simpa only[someS,Bool.or_eq_false_iff] using this
    obtain⟨bs,h3,h4⟩:=wiS hl hR s h2 (fun e=>(hu1 e).2)
    exact⟨_::bs,⟨wiT hl hR t h1 (fun e=>(hu1 e).1),h3⟩,by simp[someS,h4]⟩
theorem wiC {xs:List RE} {names:List Bytes} {E l:List Bool} {u:Bool} {R:Nat→Bool→Prop} (hl:u=false→LP xs names E l) (hR:StepW xs names l u R):∀ (c:List (List Term)) {qs:List Nat},DenC xs qs c→(u=false→someC (unkT names) c=false)→∃ bs,AllR R qs bs∧bs.any id=someC (HT names E u) c
  | [],qs=>by
    intro h _
    simp only[DenC] at h
    subst h
    exact⟨[],trivial,by simp[someC]⟩
  | s::c,qs=>by
    intro h hu
    simp only[DenC] at h
    obtain⟨q,qs',ks,rfl,h1,h2,h3⟩:=h
    have hu1:u=false→someS (unkT names) s=false∧someC (unkT names) c=false:=fun e=>by have:=hu e;simpa only[someC,Bool.or_eq_false_iff] using this
    obtain⟨bs,h4,h5⟩:=wiS hl hR s h2 (fun e=>(hu1 e).1)
    obtain⟨cs,h6,h7⟩:=wiC hl hR c h3 (fun e=>(hu1 e).2)
    refine⟨_::cs,⟨hR q _ bs h1 h4,h6⟩,?_⟩
    simp[someC,h7,h5,hitX]
 end
theorem markL_get (names:List Bytes) (j:Nat):∀ (l:List Bytes) (B:List Bool),j<B.length→(markL names B l).getD j false=(B.getD j false || (l.map (idx0 names)).contains j)
 | [],B,_=>by simp[markL]
 | b::l,B,hj=>by
  show (markL names (B.set (idx0 names b) true) l).getD j false=_
  rw[markL_get names j l _ (by simpa using hj)]
  simp only[List.getD_eq_getElem?_getD,List.getElem?_set,List.map_cons,List.contains_cons]
  by_cases h:idx0 names b=j
  ·subst h;simp[hj]
  ·rw[if_neg h]
   have:(j == idx0 names b)=false:=by simpa using fun e=>h e.symm
   rw[this];simp
theorem zcq {names:List Bytes} {E:List Bool} {g:List Rule} {i j:Nat} (hi:i<g.length) (hn : 0<names.length):dirM names E g i j=true↔j ∈ (zaJ (Eb names E) g[i].choice).map (idx0 names):=by
 unfold dirM
 simp only[List.getElem?_eq_getElem hi,Option.map_some,Option.getD_some]
 by_cases hj:j<names.length
 ·rw[markL_get _ _ _ _ (by simpa using hj)]
  simp[hj]
 ·constructor
  ·intro h
   rw[List.getD_eq_getElem?_getD,List.getElem?_eq_none (by rw[zdp];simp;omega)] at h
   cases h
  ·intro h
   obtain⟨b,_,hb⟩:=List.mem_map.1 h
   have:=zcc b hn
   omega
end Go.Proofs.YtiganlkabilblaaGreatDoor
namespace Thk
def zbj (d:Nat) (ts:List Tok) (r:Res Piece):Prop:=∀ r',PPiece d ts r'→r=r'
def zbZ (d:Nat) (ts:List Tok) (r:Res Term):Prop:=∀ r',PTerm d ts r'→r=r'
def DPSeq (d:Nat) (ts:List Tok) (r:Res Seq):Prop:=∀ r',PSeq d ts r'→r=r'
def zaY (d:Nat) (ts:List Tok) (r:Res zat):Prop:=∀ r',PChoice d ts r'→r=r'
theorem zbV {d:Nat} {ts:List Tok} {p:Piece} (hp:zad (hd ts)=some p):zbj d ts (.ok p ts.tail):=by
 intro r' h'
 cases h' with
 | plain hp'=>rw[hp] at hp';cases hp';rfl
 | bad hn _=>rw[hp] at hn;cases hn
 | deep hk=>exact absurd hp (by simp[zad,hk])
 | group hk _ _ _=>exact absurd hp (by simp[zad,hk])
 | unclosed hk _ _ _=>exact absurd hp (by simp[zad,hk])
 | inner hk _ _=>exact absurd hp (by simp[zad,hk])
theorem zch {d:Nat} {ts:List Tok} (hn:zad (hd ts)=none) (hk:(hd ts).kind≠.sign 40):zbj d ts (.err 2 (hd ts).place):=by
 intro r' h'
 cases h' with
 | plain hp'=>rw[hn] at hp';cases hp'
 | bad _ _=>rfl
 | deep hk'=>exact absurd hk' hk
 | group hk' _ _ _=>exact absurd hk' hk
 | unclosed hk' _ _ _=>exact absurd hk' hk
 | inner hk' _ _=>exact absurd hk' hk
theorem zc4 {ts:List Tok} (hk:(hd ts).kind = .sign 40):zbj 6 ts (.err 3 (hd ts).place):=by
 intro r' h'
 cases h' with
 | plain hp'=>exact absurd hp' (by simp[zad,hk])
 | bad _ hk'=>exact absurd hk hk'
 | deep _=>rfl
 | group _ hd _ _=>exact absurd rfl hd
 | unclosed _ hd _ _=>exact absurd rfl hd
 | inner _ hd _=>exact absurd rfl hd
theorem zbT {d:Nat} {ts:List Tok} {c:zat} {rest:List Tok} (hk:(hd ts).kind = .sign 40) (hd':d≠6) (hc:PChoice (d+1) ts.tail (.ok c rest)) (hcl:(hd rest).kind = .sign 41) (ihc:zaY (d+1) ts.tail (.ok c rest)):zbj d ts (.ok (.group c) rest.tail):=by
 intro r' h'
 cases h' with
 | plain hp'=>exact absurd hp' (by simp[zad,hk])
 | bad _ hk'=>exact absurd hk hk'
 | deep _=>exact absurd rfl hd'
 | group _ _ hc' _=>have:=ihc _ hc';cases this;rfl
 | unclosed _ _ hc' hcl'=>have:=ihc _ hc';cases this;exact absurd hcl hcl'
 | inner _ _ hc'=>have:=ihc _ hc';cases this
theorem zbt {d:Nat} {ts:List Tok} {c:zat} {rest:List Tok} (hk:(hd ts).kind = .sign 40) (hd':d≠6) (hc:PChoice (d+1) ts.tail (.ok c rest)) (hcl:(hd rest).kind≠.sign 41) (ihc:zaY (d+1) ts.tail (.ok c rest)):zbj d ts (.err 2 (hd rest).place):=by
 intro r' h'
 cases h' with
 | plain hp'=>exact absurd hp' (by simp[zad,hk])
 | bad _ hk'=>exact absurd hk hk'
 | deep _=>exact absurd rfl hd'
 | group _ _ hc' hcl'=>have:=ihc _ hc';cases this;exact absurd hcl' hcl
 | unclosed _ _ hc' _=>have:=ihc _ hc';cases this;rfl
 | inner _ _ hc'=>have:=ihc _ hc';cases this
theorem zbU {d:Nat} {ts:List Tok} {e p:Nat} (hk:(hd ts).kind = .sign 40) (hd':d≠6) (hc:PChoice (d+1) ts.tail (.err e p)) (ihc:zaY (d+1) ts.tail (.err e p)):zbj d ts (.err e p):=by
 intro r' h'
 cases h' with
 | plain hp'=>exact absurd hp' (by simp[zad,hk])
 | bad _ hk'=>exact absurd hk hk'
 | deep _=>exact absurd rfl hd'
 | group _ _ hc' _=>have:=ihc _ hc';cases this
 | unclosed _ _ hc' _=>have:=ihc _ hc';cases this
 | inner _ _ hc'=>have:=ihc _ hc';cases this;rfl
theorem zd2 {d:Nat} {ts:List Tok} {p:Piece} {rest:List Tok} (hp:PPiece d (zao ts).2 (.ok p rest)) (ihp:zbj d (zao ts).2 (.ok p rest)):zbZ d ts (.ok (.mk (zao ts).1 p (zak rest).1) (zak rest).2):=by
 intro r' h'
 cases h' with
 | ok hp'=>have:=ihp _ hp';cases this;rfl
 | err hp'=>have:=ihp _ hp';cases this
theorem zcF {d:Nat} {ts:List Tok} {e p:Nat} (hp:PPiece d (zao ts).2 (.err e p)) (ihp:zbj d (zao ts).2 (.err e p)):zbZ d ts (.err e p):=by
 intro r' h'
 cases h' with
 | ok hp'=>have:=ihp _ hp';cases this
 | err hp'=>have:=ihp _ hp';cases this;rfl
theorem zd1 {d:Nat} {ts:List Tok} (hb:zap d ts=false):DPSeq d ts (.ok [] ts):=by
 intro r' h'
 cases h' with
 | nil _=>rfl
 | cons hb' _ _=>rw[hb] at hb';cases hb'
 | err hb' _=>rw[hb] at hb';cases hb'
 | later hb' _ _=>rw[hb] at hb';cases hb'
theorem zcE {d:Nat} {ts:List Tok} {t:Term} {rest:List Tok} {s:Seq} {rest':List Tok} (hb:zap d ts=true) (ht:PTerm d ts (.ok t rest)) (hs:PSeq d rest (.ok s rest')) (iht:zbZ d ts (.ok t rest)) (ihs:DPSeq d rest (.ok s rest')):DPSeq d ts (.ok (t::s) rest'):=by
 intro r' h'
 cases h' with
 | nil hb'=>rw[hb] at hb';cases hb'
 | cons _ ht' hs'=>have:=iht _ ht';cases this;have:=ihs _ hs';cases this;rfl
 | err _ ht'=>have:=iht _ ht';cases this
 | later _ ht' hs'=>have:=iht _ ht';cases this;have:=ihs _ hs';cases this
theorem zcZ {d:Nat} {ts:List Tok} {e p:Nat} (hb:zap d ts=true) (ht:PTerm d ts (.err e p)) (iht:zbZ d ts (.err e p)):DPSeq d ts (.err e p):=by
 intro r' h'
 cases h' with
 | nil hb'=>rw[hb] at hb';cases hb'
 | cons _ ht' _=>have:=iht _ ht';cases this
 | err _ ht'=>have:=iht _ ht';cases this;rfl
 | later _ ht' _=>have:=iht _ ht';cases this
theorem zci {d:Nat} {ts:List Tok} {t:Term} {rest:List Tok} {e p:Nat} (hb:zap d ts=true) (ht:PTerm d ts (.ok t rest)) (hs:PSeq d rest (.err e p)) (iht:zbZ d ts (.ok t rest)) (ihs:DPSeq d rest (.err e p)):DPSeq d ts (.err e p):=by
 intro r' h'
 cases h' with
 | nil hb'=>rw[hb] at hb';cases hb'
 | cons _ ht' hs'=>have:=iht _ ht';cases this;have:=ihs _ hs';cases this
 | err _ ht'=>have:=iht _ ht';cases this
 | later _ ht' hs'=>have:=iht _ ht';cases this;have:=ihs _ hs';cases this;rfl
theorem zbP {d:Nat} {ts:List Tok} {s:Seq} {rest:List Tok} (hs:PSeq d ts (.ok s rest)) (hk:(hd rest).kind≠.sign 47) (ihs:DPSeq d ts (.ok s rest)):zaY d ts (.ok [s] rest):=by
 intro r' h'
 cases h' with
 | last hs' _=>have:=ihs _ hs';cases this;rfl
 | more hs' hk' _=>have:=ihs _ hs';cases this;exact absurd hk' hk
 | err hs'=>have:=ihs _ hs';cases this
 | later hs' hk' _=>have:=ihs _ hs';cases this;exact absurd hk' hk
theorem zbQ {d:Nat} {ts:List Tok} {s:Seq} {rest:List Tok} {c:zat} {rest':List Tok} (hs:PSeq d ts (.ok s rest)) (hk:(hd rest).kind = .sign 47) (hc:PChoice d rest.tail (.ok c rest')) (ihs:DPSeq d ts (.ok s rest)) (ihc:zaY d rest.tail (.ok c rest')):zaY d ts (.ok (s::c) rest'):=by
 intro r' h'
 cases h' with
 | last hs' hk'=>have:=ihs _ hs';cases this;exact absurd hk hk'
 | more hs' _ hc'=>have:=ihs _ hs';cases this;have:=ihc _ hc';cases this;rfl
 | err hs'=>have:=ihs _ hs';cases this
 | later hs' _ hc'=>have:=ihs _ hs';cases this;have:=ihc _ hc';cases this
theorem zc3 {d:Nat} {ts:List Tok} {e p:Nat} (hs:PSeq d ts (.err e p)) (ihs:DPSeq d ts (.err e p)):zaY d ts (.err e p):=by
 intro r' h'
 cases h' with
 | last hs' _=>have:=ihs _ hs';cases this
 | more hs' _ _=>have:=ihs _ hs';cases this
 | err hs'=>have:=ihs _ hs';cases this;rfl
 | later hs' _ _=>have:=ihs _ hs';cases this
theorem zbG {d:Nat} {ts:List Tok} {s:Seq} {rest:List Tok} {e p:Nat} (hs:PSeq d ts (.ok s rest)) (hk:(hd rest).kind = .sign 47) (hc:PChoice d rest.tail (.err e p)) (ihs:DPSeq d ts (.ok s rest)) (ihc:zaY d rest.tail (.err e p)):zaY d ts (.err e p):=by
 intro r' h'
 cases h' with
 | last hs' hk'=>have:=ihs _ hs';cases this;exact absurd hk hk'
 | more hs' _ hc'=>have:=ihs _ hs';cases this;have:=ihc _ hc';cases this
 | err hs'=>have:=ihs _ hs';cases this
 | later hs' _ hc'=>have:=ihs _ hs';cases this;have:=ihc _ hc';cases this;rfl
theorem PPiece.det {d:Nat} {ts:List Tok} {r r':Res Piece} (h:PPiece d ts r) (h':PPiece d ts r'):r=r':=by
 refine (PPiece.rec (motive_1:=fun d ts r _=>zbj d ts r) (motive_2:=fun d ts r _=>zbZ d ts r) (motive_3:=fun d ts r _=>DPSeq d ts r) (motive_4:=fun d ts r _=>zaY d ts r) ?_ ?_ ?_ ?_ ?_ ?_ ?_ ?_ ?_ ?_ ?_ ?_ ?_ ?_ ?_ ?_ h:zbj d ts r) _ h'
 ·intros;apply zbV<;>assumption
 ·intros;apply zch<;>assumption
 ·intros;apply zc4<;>assumption
 ·intros;apply zbT<;>assumption
 ·intros;apply zbt<;>assumption
 ·intros;apply zbU<;>assumption
 ·intros;apply zd2<;>assumption
 ·intros;apply zcF<;>assumption
 ·intros;apply zd1<;>assumption
 ·intros;apply zcE<;>assumption
 ·intros;apply zcZ<;>assumption
 ·intros;apply zci<;>assumption
 ·intros;apply zbP<;>assumption
 ·intros;apply zbQ<;>assumption
 ·intros;apply zc3<;>assumption
 ·intros;apply zbG<;>assumption
theorem PTerm.det {d:Nat} {ts:List Tok} {r r':Res Term} (h:PTerm d ts r) (h':PTerm d ts r'):r=r':=by
 refine (PTerm.rec (motive_1:=fun d ts r _=>zbj d ts r) (motive_2:=fun d ts r _=>zbZ d ts r) (motive_3:=fun d ts r _=>DPSeq d ts r) (motive_4:=fun d ts r _=>zaY d ts r) ?_ ?_ ?_ ?_ ?_ ?_ ?_ ?_ ?_ ?_ ?_ ?_ ?_ ?_ ?_ ?_ h:zbZ d ts r) _ h'
 ·intros;apply zbV<;>assumption
 ·intros;apply zch<;>assumption
 ·intros;apply zc4<;>assumption
 ·intros;apply zbT<;>assumption
 ·intros;apply zbt<;>assumption
 ·intros;apply zbU<;>assumption
 ·intros;apply zd2<;>assumption
 ·intros;apply zcF<;>assumption
 ·intros;apply zd1<;>assumption
 ·intros;apply zcE<;>assumption
 ·intros;apply zcZ<;>assumption
 ·intros;apply zci<;>assumption
 ·intros;apply zbP<;>assumption
 ·intros;apply zbQ<;>assumption
 ·intros;apply zc3<;>assumption
 ·intros;apply zbG<;>assumption
theorem PSeq.det {d:Nat} {ts:List Tok} {r r':Res Seq} (h:PSeq d ts r) (h':PSeq d ts r'):r=r':=by
 refine (PSeq.rec (motive_1:=fun d ts r _=>zbj d ts r) (motive_2:=fun d ts r _=>zbZ d ts r) (motive_3:=fun d ts r _=>DPSeq d ts r) (motive_4:=fun d ts r _=>zaY d ts r) ?_ ?_ ?_ ?_ ?_ ?_ ?_ ?_ ?_ ?_ ?_ ?_ ?_ ?_ ?_ ?_ h:DPSeq d ts r) _ h'
 ·intros;apply zbV<;>assumption
 ·intros;apply zch<;>assumption
 ·intros;apply zc4<;>assumption
 ·intros;apply zbT<;>assumption
 ·intros;apply zbt<;>assumption
 ·intros;apply zbU<;>assumption
 ·intros;apply zd2<;>assumption
 ·intros;apply zcF<;>assumption
 ·intros;apply zd1<;>assumption
 ·intros;apply zcE<;>assumption
 ·intros;apply zcZ<;>assumption
 ·intros;apply zci<;>assumption
 ·intros;apply zbP<;>assumption
 ·intros;apply zbQ<;>assumption
 ·intros;apply zc3<;>assumption
 ·intros;apply zbG<;>assumption
theorem PChoice.det {d:Nat} {ts:List Tok} {r r':Res zat} (h:PChoice d ts r) (h':PChoice d ts r'):r=r':=by
 refine (PChoice.rec (motive_1:=fun d ts r _=>zbj d ts r) (motive_2:=fun d ts r _=>zbZ d ts r) (motive_3:=fun d ts r _=>DPSeq d ts r) (motive_4:=fun d ts r _=>zaY d ts r) ?_ ?_ ?_ ?_ ?_ ?_ ?_ ?_ ?_ ?_ ?_ ?_ ?_ ?_ ?_ ?_ h:zaY d ts r) _ h'
 ·intros;apply zbV<;>assumption
 ·intros;apply zch<;>assumption
 ·intros;apply zc4<;>assumption
 ·intros;apply zbT<;>assumption
 ·intros;apply zbt<;>assumption
 ·intros;apply zbU<;>assumption
 ·intros;apply zd2<;>assumption
 ·intros;apply zcF<;>assumption
 ·intros;apply zd1<;>assumption
 ·intros;apply zcE<;>assumption
 ·intros;apply zcZ<;>assumption
 ·intros;apply zci<;>assumption
 ·intros;apply zbP<;>assumption
 ·intros;apply zbQ<;>assumption
 ·intros;apply zc3<;>assumption
 ·intros;apply zbG<;>assumption
theorem PRule.det {n:Nat} {ts:List Tok} {r r':Res Rule} (h:PRule n ts r) (h':PRule n ts r'):r=r':=by
 cases h with
 | noName hk=>cases h'<;>first | rfl | contradiction
 | many hk ha=>cases h'<;>first | rfl | contradiction
 | noArrow hk ha=>cases h'<;>first | rfl | contradiction
 | ok hk ha hn hc=>
  cases h' with
  | noName hk'=>exact absurd hk hk'
  | many _ _=>exact absurd rfl hn
  | noArrow _ ha'=>exact absurd ha ha'
  | ok _ _ _ hc'=>have:=hc.det hc';cases this;rfl
  | err _ _ _ hc'=>have:=hc.det hc';cases this
 | err hk ha hn hc=>
  cases h' with
  | noName hk'=>exact absurd hk hk'
  | many _ _=>exact absurd rfl hn
  | noArrow _ ha'=>exact absurd ha ha'
  | ok _ _ _ hc'=>have:=hc.det hc';cases this
  | err _ _ _ hc'=>have:=hc.det hc';cases this;rfl
theorem PGram.det {n:Nat} {ts:List Tok} {r:Except (Nat × Nat) (List Rule)} (h:PGram n ts r):∀ {r'},PGram n ts r'→r=r':=by
 induction h with
 | last hr hk=>
  intro r' h'
  cases h' with
  | last hr' _=>have:=hr.det hr';cases this;rfl
  | more hr' hk' _=>have:=hr.det hr';cases this;exact absurd hk hk'
  | err hr'=>have:=hr.det hr';cases this
  | later hr' hk' _=>have:=hr.det hr';cases this;exact absurd hk hk'
 | more hr hk _ ih=>
  intro r' h'
  cases h' with
  | last hr' hk'=>have:=hr.det hr';cases this;exact absurd hk' hk
  | more hr' _ hg'=>have:=hr.det hr';cases this;have:=ih hg';cases this;rfl
  | err hr'=>have:=hr.det hr';cases this
  | later hr' _ hg'=>have:=hr.det hr';cases this;have:=ih hg';cases this
 | err hr=>
  intro r' h'
  cases h' with
  | last hr' _=>have:=hr.det hr';cases this
  | more hr' _ _=>have:=hr.det hr';cases this
  | err hr'=>have:=hr.det hr';cases this;rfl
  | later hr' _ _=>have:=hr.det hr';cases this
 | later hr hk _ ih=>
  intro r' h'
  cases h' with
  | last hr' hk'=>have:=hr.det hr';cases this;exact absurd hk' hk
  | more hr' _ hg'=>have:=hr.det hr';cases this;have:=ih hg';cases this
  | err hr'=>have:=hr.det hr';cases this
  | later hr' _ hg'=>have:=hr.det hr';cases this;have:=ih hg';cases this;rfl
end Thk
namespace Go.Proofs.YtiganlkabilblaaGreatDoor
open Thk
theorem zcj {ns:List Bytes}:∀ {o1 o2:Option Nat},zaW ns o1→zaW ns o2→o1=o2
 | none,none,_,_=>rfl
 | none,some i,h1,h2=>by have:=h1 i h2.1;rw[h2.2.1] at this;cases this
 | some i,none,h1,h2=>by have:=h2 i h1.1;rw[h1.2.1] at this;cases this
 | some i,some j,h1,h2=>by
  rcases Nat.lt_trichotomy i j with h | h | h
  ·have:=h2.2.2 i h;rw[h1.2.1] at this;cases this
  ·rw[h]
  ·have:=h1.2.2 j h;rw[h2.2.1] at this;cases this
theorem zbE {g:List Rule} {p:zat→Bool}:∀ {o1 o2:Option Nat},zaS g p o1→zaS g p o2→o1=o2
 | none,none,_,_=>rfl
 | none,some i,h1,h2=>by obtain⟨h,h3,_⟩:=h2;have:=h1 i h;rw[h3] at this;cases this
 | some i,none,h1,h2=>by obtain⟨h,h3,_⟩:=h1;have:=h2 i h;rw[h3] at this;cases this
 | some i,some j,h1,h2=>by
  obtain⟨a1,a2,a3⟩:=h1
  obtain⟨b1,b2,b3⟩:=h2
  rcases Nat.lt_trichotomy i j with h | h | h
  ·have:=b3 i a1 h;rw[a2] at this;cases this
  ·rw[h]
  ·have:=a3 j b1 h;rw[b2] at this;cases this
theorem lf_det {names:List Bytes} {E:List Bool} {g:List Rule}:∀ {o1 o2:Option Nat},zdF names E g o1→zdF names E g o2→o1=o2
 | none,none,_,_=>rfl
 | none,some i,h1,h2=>by have:=h1 i h2.1;rw[h2.2.1] at this;cases this
 | some i,none,h1,h2=>by have:=h2 i h1.1;rw[h1.2.1] at this;cases this
 | some i,some j,h1,h2=>by
  rcases Nat.lt_trichotomy i j with h | h | h
  ·have:=h2.2.2 i h;rw[h1.2.1] at this;cases this
  ·rw[h]
  ·have:=h1.2.2 j h;rw[h2.2.1] at this;cases this
theorem e_det {names:List Bytes} {g:List Rule} {E F:List Bool} (h1:E.length=g.length) (h2:zbc names g E) (h3:Least names g E) (k1:F.length=g.length) (k2:zbc names g F) (k3:Least names g F):E=F:=by
 apply List.ext_getElem (by omega)
 intro i a b
 have:=Least.same h2 h3 k2 k3 i
 simpa [List.getD_eq_getElem?_getD,a,b] using this
theorem PLook.det {g:List Rule} {r1 r2:Except (Nat × Nat) (List Bool)} (h1:PLook g r1) (h2:PLook g r2):r1=r2:=by
 cases h1 with
 | twice a1=>cases h2 with
  | twice b1=>cases zcj a1 b1;rfl
  | unknown b1 _=>cases zcj a1 b1
  | loop b1=>cases zcj a1 b1
  | left b1=>cases zcj a1 b1
  | ok b1=>cases zcj a1 b1
 | unknown a1 a2=>cases h2 with
  | twice b1=>cases zcj a1 b1
  | unknown b1 b2=>cases zbE a2 b2;rfl
  | loop b1 b2=>cases zbE a2 b2
  | left b1 b2=>cases zbE a2 b2
  | ok b1 b2=>cases zbE a2 b2
 | loop a1 a2 a3 a4 a5 a6=>cases h2 with
  | twice b1=>cases zcj a1 b1
  | unknown b1 b2=>cases zbE a2 b2
  | loop b1 b2 b3 b4 b5 b6=>cases e_det a3 a4 a5 b3 b4 b5;cases zbE a6 b6;rfl
  | left b1 b2 b3 b4 b5 b6=>cases e_det a3 a4 a5 b3 b4 b5;cases zbE a6 b6
  | ok b1 b2 b3 b4 b5 b6=>cases e_det a3 a4 a5 b3 b4 b5;cases zbE a6 b6
 | left a1 a2 a3 a4 a5 a6 a7=>cases h2 with
  | twice b1=>cases zcj a1 b1
  | unknown b1 b2=>cases zbE a2 b2
  | loop b1 b2 b3 b4 b5 b6=>cases e_det a3 a4 a5 b3 b4 b5;cases zbE a6 b6
  | left b1 b2 b3 b4 b5 b6 b7=>cases e_det a3 a4 a5 b3 b4 b5;cases lf_det a7 b7;rfl
  | ok b1 b2 b3 b4 b5 b6 b7=>cases e_det a3 a4 a5 b3 b4 b5;cases lf_det a7 b7
 | ok a1 a2 a3 a4 a5 a6 a7=>cases h2 with
  | twice b1=>cases zcj a1 b1
  | unknown b1 b2=>cases zbE a2 b2
  | loop b1 b2 b3 b4 b5 b6=>cases e_det a3 a4 a5 b3 b4 b5;cases zbE a6 b6
  | left b1 b2 b3 b4 b5 b6 b7=>cases e_det a3 a4 a5 b3 b4 b5;cases lf_det a7 b7
  | ok b1 b2 b3 b4 b5 b6 b7=>cases e_det a3 a4 a5 b3 b4 b5;rfl
theorem PRead.det {l:List UInt8} {r1 r2:Except (Nat × Nat) (List Rule)} (h1:PRead l r1) (h2:PRead l r2):r1=r2:=by
 cases h1 with
 | long a=>cases h2 with
  | long b=>rfl
  | read b _=>omega
 | read a a2=>cases h2 with
  | long b=>omega
  | read b b2=>exact PGram.det a2 b2
theorem PAll.det {l:List UInt8} {r1 r2:Except (Nat × Nat) (List Rule × List Bool)} (h1:PAll l r1) (h2:PAll l r2):r1=r2:=by
 cases h1 with
 | text a=>cases h2 with
  | text b=>have:=PRead.det a b;cases this;rfl
  | rules b _=>have:=PRead.det a b;cases this
  | ok b _=>have:=PRead.det a b;cases this
 | rules a a2=>cases h2 with
  | text b=>have:=PRead.det a b;cases this
  | rules b b2=>have:=PRead.det a b;cases this;have:=PLook.det a2 b2;cases this;rfl
  | ok b b2=>have:=PRead.det a b;cases this;have:=PLook.det a2 b2;cases this
 | ok a a2=>cases h2 with
  | text b=>have:=PRead.det a b;cases this
  | rules b b2=>have:=PRead.det a b;cases this;have:=PLook.det a2 b2;cases this
  | ok b b2=>have:=PRead.det a b;cases this;have:=PLook.det a2 b2;cases this;rfl
structure LeftInv (M:Mat) (n rule:Nat) (todo:List Nat) (seen:List Bool):Prop where
 len:seen.length=n
 reach:∀ j ∈ todo,Wm M n rule j=true∧j<n
 first:∀ k,M rule k=true→k ∈ todo∨seen.getD k false=true
 shut:∀ j k,seen.getD j false=true→M j k=true→k ∈ todo∨seen.getD k false=true
 other:seen.getD rule false=false
theorem LeftInv.start {M:Mat} {n rule:Nat} {todo:List Nat} (h1:∀ k,M rule k=true↔k ∈ todo) (h2:∀ k ∈ todo,k<n):LeftInv M n rule todo (List.replicate n false):=by
 have hz:∀ j,(List.replicate n false).getD j false=false:=by
  intro j
  rw[List.getD_eq_getElem?_getD,List.getElem?_replicate];split<;>rfl
 exact⟨by simp,fun j hj=>⟨zdB M n _ _ ((h1 j).2 hj),h2 j hj⟩,fun k hk=>.inl ((h1 k).1 hk),fun j k hj=>(by rw[hz j] at hj;cases hj),hz _⟩
theorem LeftInv.done {M:Mat} {n rule:Nat} {seen:List Bool} (h:LeftInv M n rule [] seen):Wm M n rule rule=false:=by
 cases hw:Wm M n rule rule with
 | false=>rfl
 | true=>
  have:=Wm_shut M (fun j=>seen.getD j false=true) (fun j k hj hk=>(h.shut j k hj hk).resolve_left (by simp)) n rule rule (fun k hk=>(h.first k hk).resolve_left (by simp)) hw
  rw[h.other] at this;cases this
theorem LeftInv.skip {M:Mat} {n rule k:Nat} {todo:List Nat} {seen:List Bool} (h:LeftInv M n rule (k::todo) seen) (hs:seen.getD k false=true):LeftInv M n rule todo seen:=by
 refine⟨h.len,fun j hj=>h.reach j (by simp[hj]),?_,?_,h.other⟩
 ·intro j hj
  rcases h.first j hj with h1 | h1
  ·rcases List.mem_cons.1 h1 with h1 | h1
   ·subst h1;exact .inr hs
   ·exact .inl h1
  ·exact .inr h1
 ·intro i j hi hj
  rcases h.shut i j hi hj with h1 | h1
  ·rcases List.mem_cons.1 h1 with h1 | h1
   ·subst h1;exact .inr hs
   ·exact .inl h1
  ·exact .inr h1
theorem zcS (seen:List Bool) (k j:Nat) (hk:k<seen.length):(seen.set k true).getD j false=(decide (j=k) || seen.getD j false):=by
 simp only[List.getD_eq_getElem?_getD,List.getElem?_set]
 by_cases h:k=j
 ·subst h;simp[hk]
 ·rw[if_neg h]
  have:decide (j=k)=false:=by simpa using fun e=>h e.symm
  rw[this];simp
theorem LeftInv.step {M:Mat} {n rule k:Nat} {todo next:List Nat} {seen:List Bool} (h:LeftInv M n rule (k::todo) seen) (hne:k≠rule) (h1:∀ j,M k j=true↔j ∈ next) (h2:∀ j ∈ next,j<n):LeftInv M n rule (todo++next) (seen.set k true):=by
 have hk:=h.reach k (by simp)
 have hkl:k<seen.length:=by rw[h.len];exact hk.2
 refine⟨by simp[h.len],?_,?_,?_,?_⟩
 ·intro j hj
  rcases List.mem_append.1 hj with hj | hj
  ·exact h.reach j (by simp[hj])
  ·exact⟨Wm_step M n k rule j hk.2 hk.1 ((h1 j).2 hj),h2 j hj⟩
 ·intro j hj
  rw[zcS _ _ _ hkl]
  rcases h.first j hj with h3 | h3
  ·rcases List.mem_cons.1 h3 with h3 | h3
   ·subst h3;right;simp
   ·left;simp[h3]
  ·right;simp only[h3,Bool.or_true]
 ·intro i j hi hj
  rw[zcS _ _ _ hkl] at hi ⊢
  by_cases hik:i=k
  ·subst hik
   left;exact List.mem_append_right _ ((h1 j).1 hj)
  ·rcases h.shut i j (by simpa [hik] using hi) hj with h3 | h3
   ·rcases List.mem_cons.1 h3 with h3 | h3
    ·subst h3;right;simp
    ·left;simp[h3]
   ·right;simp only[h3,Bool.or_true]
 ·rw[zcS _ _ _ hkl,h.other]
  simpa using fun e=>hne e.symm
def zb5 (seen:List Bool):Nat:=(seen.filter (!·)).length
theorem zd3:∀ (seen:List Bool) (k:Nat),k<seen.length→seen.getD k false=false→zb5 (seen.set k true)+1=zb5 seen
 | [],k,h,_=>by simp at h
 | b::s,0,_,h=>by
  simp at h
  subst h;simp[zb5]
 | b::s,k+1,h,h'=>by
  have:=zd3 s k (by simpa using h) (by simpa using h')
  unfold zb5 at this ⊢
  cases b<;>simp at this ⊢<;>omega
end Go.Proofs.YtiganlkabilblaaGreatDoor
namespace Thk
mutual
def ncP:Piece→Nat
  | .name _=>1
  | .group c=>ncC c
  | _=>0
def ncT:Term→Nat
  | .mk _ p _=>ncP p
def ncS:List Term→Nat
  | []=>0
  | t::s=>ncT t+ncS s
def ncC:List (List Term)→Nat
  | []=>0
  | s::c=>ncS s+ncC c
 end
mutual
theorem first_ncP (E:Bytes→Bool):∀ p:Piece,(zaG E p).length≤ncP p
  | .name _=>by simp[zaG,ncP]
  | .lit _=>by simp[zaG]
  | .cls _=>by simp[zaG]
  | .any=>by simp[zaG]
  | .group c=>by simp only[zaG,ncP];exact zdr E c
theorem first_ncT (E:Bytes→Bool):∀ t:Term,(zbA E t).length≤ncT t
  | .mk _ p _=>by simp only[zbA,ncT];exact first_ncP E p
theorem zei (E:Bytes→Bool):∀ s:List Term,(zaP E s).length≤ncS s
  | []=>by simp[zaP]
  | t::s=>by
    have h1:=first_ncT E t
    have h2:=zei E s
    simp only[zaP,ncS,List.length_append]
    split
    · omega
    · simp;omega
theorem zdr (E:Bytes→Bool):∀ c:List (List Term),(zaJ E c).length≤ncC c
  | []=>by simp[zaJ]
  | s::c=>by
    have h1:=zei E s
    have h2:=zdr E c
    simp only[zaJ,ncC,List.length_append]
    omega
 end
theorem ahead_len (ts:List Tok):(zao ts).2.length≤ts.length:=by
 unfold zao
 repeat' split
 all_goals simp
theorem zeL (ts:List Tok):(zak ts).2.length≤ts.length:=by
 unfold zak
 repeat' split
 all_goals simp
def LP1 (ts:List Tok) (r:Res Piece):Prop:=∀ p rest,r = .ok p rest→ncP p+rest.length≤ts.length
def LP2 (ts:List Tok) (r:Res Term):Prop:=∀ p rest,r = .ok p rest→ncT p+rest.length≤ts.length
def LP3 (ts:List Tok) (r:Res Seq):Prop:=∀ p rest,r = .ok p rest→ncS p+rest.length≤ts.length
def LP4 (ts:List Tok) (r:Res zat):Prop:=∀ p rest,r = .ok p rest→ncC p+rest.length≤ts.length
theorem lp_plain {ts:List Tok} {p:Piece} (h:zad (hd ts)=some p):LP1 ts (.ok p ts.tail):=by
 intro p' rest e
 cases e
 cases ts with
 | nil=>simp[hd,zad,badT] at h
 | cons t ts=>
  simp only[hd,List.headD_cons] at h
  unfold zad at h
  split at h
  ·cases h;simp[ncP];omega
  ·cases h;simp[ncP]
  ·cases h;simp[ncP]
  ·split at h
   ·cases h;simp[ncP]
   ·cases h
  ·cases h
theorem PChoice.nc {d:Nat} {ts:List Tok} {c:zat} {rest:List Tok} (h:PChoice d ts (.ok c rest)):ncC c+rest.length≤ts.length:=by
 refine (PChoice.rec (motive_1:=fun _ ts r _=>LP1 ts r) (motive_2:=fun _ ts r _=>LP2 ts r) (motive_3:=fun _ ts r _=>LP3 ts r) (motive_4:=fun _ ts r _=>LP4 ts r) ?_ ?_ ?_ ?_ ?_ ?_ ?_ ?_ ?_ ?_ ?_ ?_ ?_ ?_ ?_ ?_ h:LP4 ts (.ok c rest)) c rest rfl
 ·intro d ts p h;exact lp_plain h
 ·intro d ts h h' p rest e;cases e
 ·intro ts h p rest e;cases e
 ·intro d ts c rest h1 h2 h3 h4 ih p rest' e
  cases e
  have:=ih _ _ rfl
  simp only[ncP,List.length_tail] at this ⊢
  omega
 ·intros;intro p rest e;cases e
 ·intros;intro p rest e;cases e
 ·intro d ts p rest h ih t rest' e
  cases e
  have:=ih _ _ rfl
  have h1:=ahead_len ts
  have h2:=zeL rest
  simp only[ncT]
  omega
 ·intros;intro p rest e;cases e
 ·intro d ts h p rest e
  cases e
  simp[ncS]
 ·intro d ts t rest s rest' h1 h2 h3 ih1 ih2 p r e
  cases e
  have:=ih1 _ _ rfl
  have:=ih2 _ _ rfl
  simp only[ncS]
  omega
 ·intros;intro p rest e;cases e
 ·intros;intro p rest e;cases e
 ·intro d ts s rest h1 h2 ih p r e
  cases e
  have:=ih _ _ rfl
  simp only[ncC]
  omega
 ·intro d ts s rest c rest' h1 h2 h3 ih1 ih2 p r e
  cases e
  have:=ih1 _ _ rfl
  have:=ih2 _ _ rfl
  simp only[ncC,List.length_tail] at *
  omega
 ·intros;intro p rest e;cases e
 ·intros;intro p rest e;cases e
theorem PRule.nc {n:Nat} {ts:List Tok} {r:Rule} {rest:List Tok} (h:PRule n ts (.ok r rest)):ncC r.choice≤ts.length∧rest.length≤ts.length:=by
 cases h with
 | ok _ _ _ hc=>
  have:=hc.nc
  simp only[List.length_tail] at this
  simp only[]
  omega
theorem PGram.nc {n:Nat} {ts:List Tok} {g:List Rule} (h:PGram n ts (.ok g)):∀ r ∈ g,ncC r.choice≤ts.length:=by
 generalize hres:(Except.ok g:Except (Nat × Nat) (List Rule))=res at h
 induction h generalizing g with
 | last hr hk=>
  cases hres
  intro r hr'
  simp only[List.mem_singleton] at hr'
  subst hr';exact hr.nc.1
 | more hr hk _ ih=>
  cases hres
  intro r hr'
  rcases List.mem_cons.1 hr' with rfl | hr'
  ·exact hr.nc.1
  ·have:=ih rfl r hr'
   have:=hr.nc.2
   omega
 | err hr=>cases hres
 | later _ _ _ _=>cases hres
theorem toksF_len:∀ (f pos:Nat) (l:Bytes),(toksF f pos l).length≤f
 | 0,_,_=>by simp[toksF]
 | f+1,pos,l=>by
  simp only[toksF,List.length_cons]
  split
  ·simp
  ·have:=toksF_len f (pos+blk false l+(tokL (l.drop (blk false l))).size) ((l.drop (blk false l)).drop (tokL (l.drop (blk false l))).size)
   omega
theorem toks_len (l:Bytes):(toks l).length≤l.length+1:=toksF_len _ _ _
end Thk
namespace Go.Proofs.YtiganlkabilblaaGreatDoor
open Thk
def joinF (sq:Bool):List (List Nat)→List Bool→List Nat
 | f::fs,b::bs=>f++(if sq && !b then [] else joinF sq fs bs)
 | _,_=>[]
structure StepF (xs:List RE) (names:List Bytes) (l:List Bool) (R:Nat→List Nat→Prop):Prop where
 name:∀ k e,xs[k]? = some e→e.kind=4→names.contains e.text=true→R k [idx0 names e.text]
 other:∀ k e fs,xs[k]? = some e→e.kind≠4→AllR R e.parts fs→(joinF (e.kind == 5) fs (e.parts.map fun p=>l.getD p false)).length≤100000→R k (joinF (e.kind == 5) fs (e.parts.map fun p=>l.getD p false))
mutual
theorem fiP {xs:List RE} {names:List Bytes} {E l:List Bool} {R:Nat→List Nat→Prop} (hl:LP xs names E l) (hR:StepF xs names l R):∀ (p:Piece) {k:Nat},DenP xs k p→someP (unkT names) p=false→(∀ b,p = .name b→names.contains b=true)→ncP p≤100000→R k ((zaG (Eb names E) p).map (idx0 names))
  | .name b,k=>by
    intro h _ hn _
    simp only[DenP] at h
    have:=hR.name k _ h rfl (hn b rfl)
    simpa [zaG] using this
  | .lit b,k=>by
    intro h _ _ _
    simp only[DenP] at h
    have:=hR.other k _ [] h (by simp) trivial (by simp[joinF])
    simpa [zaG,joinF] using this
  | .cls b,k=>by
    intro h _ _ _
    simp only[DenP] at h
    have:=hR.other k _ [] h (by simp) trivial (by simp[joinF])
    simpa [zaG,joinF] using this
  | .any,k=>by
    intro h _ _ _
    simp only[DenP] at h
    have:=hR.other k _ [] h (by simp) trivial (by simp[joinF])
    simpa [zaG,joinF] using this
  | .group c,k=>by
    intro h hu _ hb
    simp only[DenP] at h
    obtain⟨qs,h1,h2⟩:=h
    simp only[someP] at hu
    simp only[ncP] at hb
    obtain⟨fs,h3,h4⟩:=fiC hl hR c h2 hu hb
    have hbb:=zdr (Eb names E) c
    have:=hR.other k _ fs h1 (by simp) h3 (by rw[show (((⟨6,[],[],0,qs⟩:RE).kind) == 5)=false from rfl,h4,List.length_map];omega)
    rw[show ((6:Nat) == 5)=false from rfl,h4] at this
    simpa [zaG] using this
theorem fiT {xs:List RE} {names:List Bytes} {E l:List Bool} {R:Nat→List Nat→Prop} (hl:LP xs names E l) (hR:StepF xs names l R):∀ (t:Term) {k:Nat},DenT xs k t→someT (unkT names) t=false→ncT t≤100000→R k ((zbA (Eb names E) t).map (idx0 names))
  | .mk a p b,k=>by
    intro h hu hb
    simp only[DenT] at h
    obtain⟨i,j,h1,h2,h3,h4,h5⟩:=h
    simp only[ncT] at hb
    have hbb:=first_ncP (Eb names E) p
    have hj:=fiP hl hR p h3 (zc9 hu).1 (zc9 hu).2 hb
    have hi:R i ((zaG (Eb names E) p).map (idx0 names)):=by
      by_cases hb0:b=0
      · rw[if_pos hb0] at h2
        subst h2;exact hj
      · rw[if_neg hb0] at h2
        have hs:zae [b]≠4∧zae [b]≠5:=by unfold zae;(repeat' split)<;>simp
        have h5':((wrapE (zae [b]) j).kind == 5)=false:=by simpa [wrapE] using hs.2
        have:=hR.other i _ [_] h2 hs.1 ⟨hj,trivial⟩ (by rw[h5'];simp[joinF,wrapE];omega)
        rw[h5'] at this
        simpa [joinF,wrapE] using this
    simp only[zbA]
    by_cases ha:a=0
    · rw[if_pos ha] at h1
      subst h1;exact hi
    · rw[if_neg ha] at h1
      have hs:zae [a]≠4∧zae [a]≠5:=by unfold zae;(repeat' split)<;>simp
      have h5':((wrapE (zae [a]) i).kind == 5)=false:=by simpa [wrapE] using hs.2
      have:=hR.other k _ [_] h1 hs.1 ⟨hi,trivial⟩ (by rw[h5'];simp[joinF,wrapE];omega)
      rw[h5'] at this
      simpa [joinF,wrapE] using this
theorem fiS {xs:List RE} {names:List Bytes} {E l:List Bool} {R:Nat→List Nat→Prop} (hl:LP xs names E l) (hR:StepF xs names l R):∀ (s:List Term) {ks:List Nat},DenS xs ks s→someS (unkT names) s=false→ncS s≤100000→∃ fs,AllR R ks fs∧joinF true fs (ks.map fun p=>l.getD p false)=(zaP (Eb names E) s).map (idx0 names)
  | [],ks=>by
    intro h _ _
    simp only[DenS] at h
    subst h
    exact⟨[],trivial,by simp[zaP,joinF]⟩
  | t::s,ks=>by
    intro h hu hb
    simp only[ncS] at hb
    simp only[DenS] at h
    obtain⟨k,ks',rfl,h1,h2⟩:=h
    simp only[someS,Bool.or_eq_false_iff] at hu
    obtain⟨fs,h3,h4⟩:=fiS hl hR s h2 hu.2 (by omega)
    refine⟨_::fs,⟨fiT hl hR t h1 hu.1 (by omega),h3⟩,?_⟩
    have hk:=hl.2 k t h1 hu.1
    simp only[List.map_cons,joinF,zaP,hk,h4,List.map_append]
    cases zaB (Eb names E) t<;>simp
theorem fiC {xs:List RE} {names:List Bytes} {E l:List Bool} {R:Nat→List Nat→Prop} (hl:LP xs names E l) (hR:StepF xs names l R):∀ (c:List (List Term)) {qs:List Nat},DenC xs qs c→someC (unkT names) c=false→ncC c≤100000→∃ fs,AllR R qs fs∧joinF false fs (qs.map fun p=>l.getD p false)=(zaJ (Eb names E) c).map (idx0 names)
  | [],qs=>by
    intro h _ _
    simp only[DenC] at h
    subst h
    exact⟨[],trivial,by simp[zaJ,joinF]⟩
  | s::c,qs=>by
    intro h hu hb
    simp only[ncC] at hb
    have hbb:=zei (Eb names E) s
    simp only[DenC] at h
    obtain⟨q,qs',ks,rfl,h1,h2,h3⟩:=h
    simp only[someC,Bool.or_eq_false_iff] at hu
    obtain⟨fs,h4,h5⟩:=fiS hl hR s h2 hu.1 (by omega)
    obtain⟨gs,h6,h7⟩:=fiC hl hR c h3 hu.2 (by omega)
    have hq:=hR.other q _ fs h1 (by simp) h4 (by rw[show (((⟨5,[],[],0,ks⟩:RE).kind) == 5)=true from rfl,h5,List.length_map];omega)
    rw[show ((5:Nat) == 5)=true from rfl,h5] at hq
    refine⟨_::gs,⟨hq,h6⟩,?_⟩
    simp only[List.map_cons,joinF,zaJ,Bool.false_and,h7,List.map_append]
    simp
 end
end Go.Proofs.YtiganlkabilblaaGreatDoor
namespace Thk
theorem PRule.num {n:Nat} {ts:List Tok} {r:Rule} {rest:List Tok} (h:PRule n ts (.ok r rest)):n≠20:=by
 cases h with
 | ok _ _ hn _=>exact hn
theorem PGram.len {n:Nat} {ts:List Tok} {g:List Rule} (h:PGram n ts (.ok g)) (hn:n≤20):g≠[]∧n+g.length≤20:=by
 generalize hres:(Except.ok g:Except (Nat × Nat) (List Rule))=res at h
 induction h generalizing g with
 | last hr hk=>
  cases hres
  have:=hr.num
  exact⟨by simp,by simp;omega⟩
 | more hr hk _ ih=>
  cases hres
  have h1:=hr.num
  have h2:=ih (by omega) rfl
  refine⟨by simp,?_⟩
  have:=h2.2
  simp only[List.length_cons]
  omega
 | err hr=>cases hres
 | later _ _ _ _=>cases hres
theorem term_len (S:ST) (k:Nat) (sg:Bytes):(S.term k sg).xs.length≤S.xs.length+1:=by
 rw[zdS];split<;>simp
theorem lay_len (S:ST) (e:RE):(S.lay e).xs.length≤S.xs.length+2:=by
 unfold ST.lay
 refine Nat.le_trans (term_len _ _ _) ?_
 simp[ST.add]
theorem behind_xlen (S:ST) (b:Bytes):(S.behind b).xs.length≤S.xs.length+1:=by
 unfold ST.behind
 simp only[]
 split<;>simp[ST.add,ST.setTop]
theorem rule_len (S:ST):S.rule.xs.length≤S.xs.length+2:=by
 unfold ST.rule
 split
 ·omega
 ·simp only[zcg];omega
theorem begin_len (S:ST) (b:Bytes):(S.begin b).xs.length≤S.xs.length+2:=rule_len S
theorem signs_len {S S':ST} {c:UInt8} (hs:S.signs c = .ok S'):S'.xs.length≤S.xs.length+3:=by
 unfold ST.signs at hs
 repeat' split at hs
 all_goals first
  | cases hs;done
  | (cases hs;simp only[slash_len];omega)
  | (cases hs;simp only[];omega)
  | (cases hs;have:=behind_xlen S [c];omega)
  | (cases hs;have:=term_len S.closed (S.xs.length+1) S.top.sign;rw[zcg] at this;omega)
  | (cases hs;have:=lay_len S ⟨3,[],[],0,[]⟩;omega)
theorem run_len:∀ (n:Nat) (ts:List Tok),ts.length≤n→∀ S S',run ts S = .ok S'→S'.xs.length≤S.xs.length+3 * n:=by
 intro n
 induction n with
 | zero=>
  intro ts hl S S' hr
  have:ts=[]:=List.length_eq_zero_iff.1 (by omega)
  subst this
  simp[run] at hr
 | succ n ih=>
  intro ts hl S S' hr
  cases ts with
  | nil=>simp[run] at hr
  | cons t rest=>
   simp at hl
   rw[run.eq_def] at hr
   simp only[] at hr
   cases hk:t.kind with
   | bad=>simp only[hk] at hr;cases hr
   | fin=>
    simp only[hk] at hr
    split at hr
    ·cases hr
    ·cases hr;have:=rule_len S;omega
   | arrow=>simp only[hk] at hr;cases hr
   | sign c=>
    simp only[hk] at hr
    split at hr
    ·cases hr
    ·split at hr
     ·cases hr
     ·rename_i S1 hs
      have h1:=signs_len hs
      have:=ih rest hl S1 S' hr
      omega
   | lit=>
    simp only[hk] at hr
    split at hr
    ·cases hr
    ·have h1:=lay_len S (zav t)
     have:=ih rest hl _ S' hr
     omega
   | cls=>
    simp only[hk] at hr
    split at hr
    ·cases hr
    ·have h1:=lay_len S (zav t)
     have:=ih rest hl _ S' hr
     omega
   | name=>
    simp only[hk] at hr
    cases rest with
    | nil=>simp at hr
    | cons m rest'=>
     simp only[] at hr
     simp at hl
     split at hr
     ·split at hr
      ·cases hr
      ·split at hr
       ·cases hr
       ·have h1:=begin_len S t.text
        have:=ih rest' (by omega) _ S' hr
        omega
     ·split at hr
      ·cases hr
      ·have h1:=lay_len S (zav t)
       have:=ih (m::rest') (by simp;omega) _ S' hr
       omega
end Thk
namespace Go.Proofs.YtiganlkabilblaaGreatDoor
open Thk
theorem Wf_TL:∀ (n:Nat) (l:List UInt8) (pos:Nat),l.length≤n→Wf (TL pos l):=by
 intro n
 induction n with
 | zero=>
  intro l pos hl
  have:l=[]:=List.length_eq_zero_iff.1 (by omega)
  subst this
  refine⟨by intro c h;simp[Thk.tokL,Thk.blk] at h,?_⟩
  simp[Thk.tokL,Thk.blk,TK.last]
 | succ n ih=>
  intro l pos hl
  rw[TL_eq]
  refine⟨?_,?_⟩
  ·intro c hc
   have:=tokL_ok (l.drop (blk false l))
   have e:(tokL (l.drop (blk false l))).kind=(tokAt pos l).kind:=rfl
   rw[e,hc] at this
   exact this
  ·cases hk:(tokAt pos l).kind.last with
   | true=>simp
   | false=>
    simp only[Bool.false_eq_true,if_false]
    refine ih _ _ ?_
    have hs:=zbN (l.drop (blk false l)) hk
    have e:(tokAt pos l).size=(tokL (l.drop (blk false l))).size:=rfl
    rw[List.length_drop] at hs ⊢
    omega
theorem DenR.names {xs:List RE}:∀ (rs:List (Bytes × Nat)) (g:List Rule),DenR xs rs g→rs.map (·.1)=za8 g
 | [],[]=>fun _=>rfl
 | x::rs,r::g=>fun ⟨h1,_,h3⟩=>by
  have:=DenR.names rs g h3
  simp only[List.map_cons,za8] at this ⊢
  rw[h1,this]
 | [],_::_=>fun h=>h.elim
 | _::_,[]=>fun h=>h.elim
structure RdOk (g:List Rule) (S:ST):Prop where
 den:DenR S.xs S.rs g
 wx:Wx S
 bd:∀ r ∈ S.rs,r.2<S.xs.length
 len:S.xs.length≤10000
 ne:g≠[]
 le:g.length≤20
 nc:∀ r ∈ g,ncC r.choice≤2001
theorem read_ok {l:List UInt8} {g:List Rule} (h:PRead l (.ok g)):l.length≤2000∧∃ S',run (TL 0 l) S0 = .ok S'∧RdOk g S':=by
 cases h with
 | read hl hp=>
  obtain⟨S',h1,h2⟩:=gram_sim hp S0 [] (.inl ⟨rfl,rfl,rfl,by rw[zcd];exact Wf_TL _ l 0 (Nat.le_refl _)⟩) (by omega) (by simp)
  rw[zcd] at h1
  have hl2:=toks_len l
  rw[zcd] at hl2
  obtain⟨w1,w2⟩:=run_wx _ (TL 0 l) (Nat.le_refl _) _ _ Wx.zero h1
  have h3:=run_len _ (TL 0 l) hl2 _ _ h1
  have h4:=hp.len (by omega)
  simp only[List.nil_append] at h2
  refine⟨hl,S',h1,h2,w1,w2,by simp[S0] at h3;omega,h4.1,by omega,fun r hr=>?_⟩
  have:=hp.nc r hr
  rw[zcd] at this
  omega
theorem read_err {l:List UInt8} {x:Nat × Nat} (h:PRead l (.error x)):(2000<l.length∧x=(1,0))∨(l.length≤2000∧run (TL 0 l) S0 = .error x):=by
 cases h with
 | long hl=>exact .inl ⟨hl,rfl⟩
 | read hl hp=>
  have h1:=gram_sim hp S0 [] (.inl ⟨rfl,rfl,rfl,by rw[zcd];exact Wf_TL _ l 0 (Nat.le_refl _)⟩) (by omega) (by simp)
  exact .inr ⟨hl,by rw[← zcd];exact h1⟩
end Go.Proofs.YtiganlkabilblaaGreatDoor
namespace Thk
theorem Wf.tail {t:Tok} {r:List Tok} (h:Wf (t::r)) (hl:t.kind.last=false):Wf r:=by
 have:=h.2;rw[if_neg (by simp[hl])] at this;exact this
theorem run_err:∀ (n:Nat) (ts:List Tok),ts.length≤n→Wf ts→∀ S x,run ts S = .error x→x.1≠0:=by
 intro n
 induction n with
 | zero=>
  intro ts hl hw
  have:ts=[]:=List.length_eq_zero_iff.1 (by omega)
  subst this
  exact hw.elim
 | succ n ih=>
  intro ts hl hw S x hr
  cases ts with
  | nil=>exact hw.elim
  | cons t rest=>
   simp at hl
   rw[run.eq_def] at hr
   simp only[] at hr
   cases hk:t.kind with
   | bad=>simp only[hk] at hr;cases hr;simp
   | fin=>
    simp only[hk] at hr
    split at hr
    ·cases hr;simp
    ·cases hr
   | arrow=>simp only[hk] at hr;cases hr;simp
   | sign c=>
    simp only[hk] at hr
    split at hr
    ·cases hr;simp
    ·split at hr
     ·rename_i er hs
      cases hr
      have:=signs_err hs
      simp only[]
      omega
     ·rename_i S1 hs
      exact ih rest hl (hw.tail (by rw[hk];rfl)) S1 x hr
   | lit=>
    simp only[hk] at hr
    split at hr
    ·cases hr;simp
    ·exact ih rest hl (hw.tail (by rw[hk];rfl)) _ x hr
   | cls=>
    simp only[hk] at hr
    split at hr
    ·cases hr;simp
    ·exact ih rest hl (hw.tail (by rw[hk];rfl)) _ x hr
   | name=>
    simp only[hk] at hr
    have hw1:=hw.tail (by rw[hk];rfl)
    cases rest with
    | nil=>exact hw1.elim
    | cons m rest'=>
     simp only[] at hr
     simp at hl
     split at hr
     ·rename_i ha
      split at hr
      ·cases hr;simp
      ·split at hr
       ·cases hr;simp
       ·have hm:m.kind.last=false:=by
         cases hmk:m.kind<;>simp[hmk,TK.isArrow] at ha<;>rfl
        exact ih rest' (by omega) (hw1.tail hm) _ x hr
     ·split at hr
      ·cases hr;simp
      ·exact ih (m::rest') (by simp;omega) hw1 _ x hr
end Thk
namespace Go.Proofs.YtiganlkabilblaaGreatDoor
open Thk
theorem read_err0 {l:List UInt8} {x:Nat × Nat} (h:PRead l (.error x)):x.1≠0:=by
 rcases read_err h with ⟨_,rfl⟩ | ⟨_,h1⟩
 ·simp
 ·exact run_err _ _ (Nat.le_refl _) (Wf_TL _ l 0 (Nat.le_refl _)) _ _ h1
theorem twice_iff {names : List Bytes} {i : Nat} (hi : i < names.length) : zbd names i = true ↔ ∃ k, ∃ h : k < i, names[k]'(by omega) = names[i] := by
 unfold zbd
 rw[List.contains_iff_mem,List.getD_eq_getElem?_getD,List.getElem?_eq_getElem hi,Option.getD_some,List.mem_iff_getElem]
 constructor
 ·rintro⟨k,hk,h⟩
  rw[List.length_take] at hk
  exact⟨k,by omega,by simpa using h⟩
 ·rintro⟨k,hk,h⟩
  exact⟨k,by simp;omega,by simpa using h⟩
end Go.Proofs.YtiganlkabilblaaGreatDoor
namespace Thk
inductive Nt where
 | nil
 | use (rule from_ to:Nat) (within:Nt)
 | pair (a b:Nt)
def jn:Nt→Nt→Nt
 | .nil,b=>b
 | a,.nil=>a
 | a,b=>.pair a b
abbrev Out:=Option (Nat × Nt)
inductive Ex where
 | P (p:Piece)
 | Q (p:Piece)
 | I (p:Piece) (b:UInt8)
 | T (t:Term)
 | S (s:List Term) (acc:Nt)
 | C (c:List (List Term))
def zb2 (i k:Nat):Out→Out
 | none=>none
 | some (e,m)=>if k<e then some (e,.use i k e m) else some (e,.nil)
def zaT (l:List Span) (c:UInt8):Bool:=l.any fun s=>s.1≤c && c≤s.2
def zaO (inp:Bytes) (k:Nat) (f:UInt8→Bool):Out:=match inp[k]? with
 | none=>none
 | some c=>if f c then some (k+1,.nil) else none
def zbL (inp:Bytes) (k:Nat) (b:Bytes):Out:=if b.isPrefixOf (inp.drop k) then some (k+b.length,.nil) else none
def zc6 (k:Nat) (r:Out):Out:=some (r.getD (k,.nil))
def zb8 (k:Nat) (w:Bool) (r:Out):Out:=if r.isSome == w then some (k,.nil) else none
end Thk
namespace Go.Proofs.YtiganlkabilblaaGreatDoor
open Thk
inductive Ev (g:List Rule) (inp:Bytes):Ex→Nat→Out→Prop
 | cnil {k}:Ev g inp (.C []) k none
 | chit {s c k x}:Ev g inp (.S s .nil) k (some x)→Ev g inp (.C (s::c)) k (some x)
 | cmiss {s c k r}:Ev g inp (.S s .nil) k none→Ev g inp (.C c) k r→Ev g inp (.C (s::c)) k r
 | snil {acc k}:Ev g inp (.S [] acc) k (some (k,acc))
 | sfail {t s acc k}:Ev g inp (.T t) k none→Ev g inp (.S (t::s) acc) k none
 | sstep {t s acc k e m r}:Ev g inp (.T t) k (some (e,m))→Ev g inp (.S s (jn acc m)) e r→Ev g inp (.S (t::s) acc) k r
 | tplain {p b k r}:Ev g inp (.I p b) k r→Ev g inp (.T (.mk 0 p b)) k r
 | tand {p b k r}:Ev g inp (.I p b) k r→Ev g inp (.T (.mk 38 p b)) k (zb8 k true r)
 | tnot {p b k r}:Ev g inp (.I p b) k r→Ev g inp (.T (.mk 33 p b)) k (zb8 k false r)
 | iplain {p k r}:Ev g inp (.P p) k r→Ev g inp (.I p 0) k r
 | imaybe {p k r}:Ev g inp (.P p) k r→Ev g inp (.I p 63) k (zc6 k r)
 | istar {p k r}:Ev g inp (.Q p) k r→Ev g inp (.I p 42) k (zc6 k r)
 | iplus {p k r}:Ev g inp (.Q p) k r→Ev g inp (.I p 43) k r
 | qno {p k}:Ev g inp (.P p) k none→Ev g inp (.Q p) k none
 | qlast {p k e m}:Ev g inp (.P p) k (some (e,m))→Ev g inp (.Q p) e none→Ev g inp (.Q p) k (some (e,m))
 | qmore {p k e m e2 m2}:Ev g inp (.P p) k (some (e,m))→Ev g inp (.Q p) e (some (e2,m2))→Ev g inp (.Q p) k (some (e2,jn m m2))
 | pname {b k r} (h:idx0 (za8 g) b<g.length) (hc:(za8 g).contains b=true):Ev g inp (.C g[idx0 (za8 g) b].choice) k r→Ev g inp (.P (.name b)) k (zb2 (idx0 (za8 g) b) k r)
 | plit {b k} (h:b.length≤20):Ev g inp (.P (.lit b)) k (zbL inp k b)
 | pcls {l k} (h:l.length≤20):Ev g inp (.P (.cls l)) k (zaO inp k (zaT l))
 | pany {k}:Ev g inp (.P .any) k (zaO inp k (fun _=>true))
 | pgroup {c k r}:Ev g inp (.C c) k r→Ev g inp (.P (.group c)) k r
mutual
def goodP (names:List Bytes) (E:List Bool):Piece→Prop
  | .name b=>names.contains b=true
  | .lit b=>b≠[]∧b.length≤20
  | .cls l=>l.length≤20
  | .group c=>goodC names E c
  | .any=>True
def goodT (names:List Bytes) (E:List Bool):Term→Prop
  | .mk a p b=>(a=0∨a=38∨a=33)∧(b=0∨b=63∨b=42∨b=43)∧goodP names E p∧((b=42∨b=43)→zaw (Eb names E) p=false)
def goodS (names:List Bytes) (E:List Bool):List Term→Prop
  | []=>True
  | t::s=>goodT names E t∧goodS names E s
def goodC (names:List Bytes) (E:List Bool):List (List Term)→Prop
  | []=>True
  | s::c=>goodS names E s∧goodC names E c
 end
def goodX (names:List Bytes) (E:List Bool):Ex→Prop
 | .P p=>goodP names E p
 | .Q p=>goodP names E p
 | .I p _=>goodP names E p
 | .T t=>goodT names E t
 | .S s _=>goodS names E s
 | .C c=>goodC names E c
def zb6 (F:Bytes→Bool):Ex→Bool
 | .P p=>zaw F p
 | .Q p=>zaw F p
 | .I p b=>(b == 63 || b == 42) || zaw F p
 | .T t=>zaB F t
 | .S s _=>zaL F s
 | .C c=>zaz F c
structure Ends' (g:List Rule) (E:List Bool):Prop where
 good:∀ i (h:i<g.length),goodC (za8 g) E g[i].choice
 shut:zbc (za8 g) g E
 left:zdF (za8 g) E g none
 pos : 0<g.length
theorem zcX {inp:Bytes} {k e:Nat} {f:UInt8→Bool} {m:Nt} (h:zaO inp k f=some (e,m)):e=k+1∧e≤inp.length:=by
 unfold zaO at h
 split at h
 ·cases h
 ·rename_i c hc
  have:=(List.getElem?_eq_some_iff.1 hc).1
  split at h
  ·cases h;exact⟨rfl,by omega⟩
  ·cases h
theorem litOut_le {inp:Bytes} {k e:Nat} {b:Bytes} {m:Nt} (hk:k≤inp.length) (h:zbL inp k b=some (e,m)):e=k+b.length∧e≤inp.length:=by
 unfold zbL at h
 split at h
 ·rename_i hp
  cases h
  have:=(List.isPrefixOf_iff_prefix.1 hp).length_le
  rw[List.length_drop] at this
  exact⟨rfl,by omega⟩
 ·cases h
theorem Ev.le {g:List Rule} {inp:Bytes} {x:Ex} {k:Nat} {r:Out} (h:Ev g inp x k r):k≤inp.length→∀ e m,r=some (e,m)→k≤e∧e≤inp.length:=by
 induction h with
 | cnil=>intro _ e m h;cases h
 | chit _ ih=>intro hk e m h;exact ih hk e m h
 | cmiss _ _ _ ih=>intro hk e m h;exact ih hk e m h
 | snil=>intro hk e m h;cases h;exact⟨Nat.le_refl _,hk⟩
 | sfail=>intro _ e m h;cases h
 | sstep _ _ ih1 ih2=>
  intro hk e m h
  have h1:=ih1 hk _ _ rfl
  have h2:=ih2 h1.2 e m h
  omega
 | tplain _ ih=>exact ih
 | tand _ ih=>
  intro hk e m h
  unfold zb8 at h
  split at h<;>cases h
  exact⟨Nat.le_refl _,hk⟩
 | tnot _ ih=>
  intro hk e m h
  unfold zb8 at h
  split at h<;>cases h
  exact⟨Nat.le_refl _,hk⟩
 | iplain _ ih=>exact ih
 | @imaybe p k r _ ih=>
  intro hk e m h
  cases r with
  | none=>cases h;exact⟨Nat.le_refl _,hk⟩
  | some x=>exact ih hk e m h
 | @istar p k r _ ih=>
  intro hk e m h
  cases r with
  | none=>cases h;exact⟨Nat.le_refl _,hk⟩
  | some x=>exact ih hk e m h
 | iplus _ ih=>exact ih
 | qno=>intro _ e m h;cases h
 | qlast _ _ ih1 _=>exact ih1
 | qmore _ _ ih1 ih2=>
  intro hk e m h
  have h1:=ih1 hk _ _ rfl
  cases h
  have h2:=ih2 h1.2 _ _ rfl
  omega
 | @pname b k r h hc _ ih=>
  intro hk e m h
  cases r with
  | none=>cases h
  | some x=>
   obtain⟨e',m'⟩:=x
   have:=ih hk e' m' rfl
   unfold zb2 at h
   simp only[] at h
   split at h<;>cases h<;>exact this
 | plit=>
  intro hk e m h
  have:=litOut_le hk h
  omega
 | pcls=>
  intro hk e m h
  have:=zcX h
  omega
 | pany=>
  intro hk e m h
  have:=zcX h
  omega
 | pgroup _ ih=>exact ih
theorem nameOut_end {i k e:Nat} {r:Out} {m:Nt} (h:zb2 i k r=some (e,m)):∃ m',r=some (e,m'):=by
 cases r with
 | none=>cases h
 | some x=>
  obtain⟨e',m'⟩:=x
  unfold zb2 at h
  simp only[] at h
  split at h<;>cases h<;>exact⟨_,rfl⟩
theorem Ev.empty {g:List Rule} {inp:Bytes} {E:List Bool} (hE:Ends' g E) {x:Ex} {k:Nat} {r:Out} (h:Ev g inp x k r):k≤inp.length→goodX (za8 g) E x→∀ m,r=some (k,m)→zb6 (Eb (za8 g) E) x=true:=by
 induction h with
 | cnil=>intro _ _ m h;cases h
 | chit _ ih=>
  intro hk hg m h
  simp only[goodX,goodC] at hg
  have:=ih hk hg.1 m h
  simp only[zb6,zaz] at *
  rw[this];rfl
 | cmiss _ _ _ ih=>
  intro hk hg m h
  simp only[goodX,goodC] at hg
  have:=ih hk hg.2 m h
  simp only[zb6,zaz] at *
  rw[this];simp
 | snil=>intro _ _ m h;simp[zb6,zaL]
 | sfail=>intro _ _ m h;cases h
 | sstep h1 h2 ih1 ih2=>
  intro hk hg m h
  simp only[goodX,goodS] at hg
  have l1:=h1.le hk _ _ rfl
  have l2:=h2.le l1.2 _ _ h
  have e1:_=_:=Nat.le_antisymm l2.1 l1.1
  subst e1
  have a1:=ih1 hk hg.1 _ rfl
  have a2:=ih2 hk hg.2 _ h
  simp only[zb6,zaL] at *
  rw[a1,a2];rfl
 | tplain _ ih=>
  intro hk hg m h
  simp only[goodX,goodT] at hg
  have:=ih hk hg.2.2.1 m h
  simp only[zb6,zaB] at *
  simpa using this
 | tand _ ih=>intro _ _ m h;simp[zb6,zaB]
 | tnot _ ih=>intro _ _ m h;simp[zb6,zaB]
 | iplain _ ih=>
  intro hk hg m h
  have:=ih hk hg m h
  simp only[zb6] at *
  simpa using this
 | imaybe _ ih=>intro _ _ m h;simp[zb6]
 | istar _ ih=>intro _ _ m h;simp[zb6]
 | iplus _ ih=>
  intro hk hg m h
  have:=ih hk hg m h
  simp only[zb6] at *
  simpa using this
 | qno=>intro _ _ m h;cases h
 | qlast _ _ ih1 _=>exact ih1
 | qmore h1 h2 ih1 ih2=>
  intro hk hg m h
  have l1:=h1.le hk _ _ rfl
  have l2:=h2.le l1.2 _ _ rfl
  cases h
  have e1:_=_:=Nat.le_antisymm l2.1 l1.1
  subst e1
  exact ih1 hk hg _ rfl
 | @pname b k r hlt hc _ ih=>
  intro hk hg m h
  obtain⟨m',rfl⟩:=nameOut_end h
  have:=ih hk (hE.good _ hlt) m' rfl
  exact hE.shut _ hlt this
 | @plit b k _=>
  intro hk hg m h
  have:=(litOut_le hk h).1
  simp only[goodX,goodP] at hg
  have:b.length≠0:=fun e=>hg.1 (List.length_eq_zero_iff.1 e)
  omega
 | pcls=>intro hk hg m h;have:=(zcX h).1;omega
 | pany=>intro hk hg m h;have:=(zcX h).1;omega
 | pgroup _ ih=>exact ih
def Tot (g:List Rule) (inp:Bytes) (x:Ex) (k:Nat):Prop:=∃ r,Ev g inp x k r
def Past (g:List Rule) (inp:Bytes) (k:Nat):Prop:=∀ k',k<k'→k'≤inp.length→∀ i (h:i<g.length),Tot g inp (.C g[i].choice) k'
def At (g:List Rule) (inp:Bytes) (l:List Bytes) (k:Nat):Prop:=∀ b ∈ l,∀ (h:idx0 (za8 g) b<g.length),Tot g inp (.C g[idx0 (za8 g) b].choice) k
theorem Past.next {g:List Rule} {inp:Bytes} {k k':Nat} (h:Past g inp k) (hk:k≤k'):Past g inp k':=fun j hj hl i hi=>h j (by omega) hl i hi
theorem Past.at_ {g:List Rule} {inp:Bytes} {k k':Nat} (h:Past g inp k) (hk:k<k') (hl:k'≤inp.length) (l:List Bytes):At g inp l k':=fun _ _ hi=>h k' hk hl _ hi
theorem tot_Q {g:List Rule} {inp:Bytes} {E:List Bool} (hE:Ends' g E) {p:Piece} (hg:goodP (za8 g) E p) (he:zaw (Eb (za8 g) E) p=false)
  (ih:∀ k,k≤inp.length→At g inp (zaG (Eb (za8 g) E) p) k→Past g inp k→Tot g inp (.P p) k) :
  ∀ n k,inp.length - k≤n→k≤inp.length→At g inp (zaG (Eb (za8 g) E) p) k→Past g inp k→Tot g inp (.Q p) k
 | n,k,hn,hk,ha,hp=>by
  obtain⟨r,hr⟩:=ih k hk ha hp
  cases r with
  | none=>exact⟨_,.qno hr⟩
  | some x=>
   obtain⟨e,m⟩:=x
   have hle:=hr.le hk _ _ rfl
   have hne:e≠k:=by
    rintro rfl
    have:=hr.empty hE hk hg m rfl
    simp only[zb6] at this
    rw[he] at this
    cases this
   cases n with
   | zero=>omega
   | succ n=>
    obtain⟨r2,h2⟩:=tot_Q hE hg he ih n e (by omega) hle.2 (hp.at_ (by omega) hle.2 _) (hp.next (by omega))
    cases r2 with
    | none=>exact⟨_,.qlast hr h2⟩
    | some y=>exact⟨_,.qmore (e2:=y.1) (m2:=y.2) hr h2⟩
mutual
theorem tot_P {g:List Rule} {inp:Bytes} {E:List Bool} (hE:Ends' g E):∀ (p:Piece) (k:Nat),goodP (za8 g) E p→k≤inp.length→At g inp (zaG (Eb (za8 g) E) p) k→Past g inp k→Tot g inp (.P p) k
  | .name b,k=>by
    intro hg hk ha hp
    have hl:idx0 (za8 g) b<g.length:=by
      have:=zcc (names:=za8 g) b (by rw[zax];exact hE.pos)
      rw[zax] at this;exact this
    obtain⟨r,hr⟩:=ha b (by simp[zaG]) hl
    simp only[goodP] at hg
    exact⟨_,.pname hl hg hr⟩
  | .lit b,k=>fun hg _ _ _=>⟨_,.plit (by simp only[goodP] at hg;exact hg.2)⟩
  | .cls l,k=>fun hg _ _ _=>⟨_,.pcls (by simp only[goodP] at hg;exact hg)⟩
  | .any,k=>fun _ _ _ _=>⟨_,.pany⟩
  | .group c,k=>by
    intro hg hk ha hp
    simp only[goodP] at hg
    simp only[zaG] at ha
    obtain⟨r,hr⟩:=tot_C hE c k hg hk ha hp
    exact⟨_,.pgroup hr⟩
theorem tot_T {g:List Rule} {inp:Bytes} {E:List Bool} (hE:Ends' g E):∀ (t:Term) (k:Nat),goodT (za8 g) E t→k≤inp.length→At g inp (zbA (Eb (za8 g) E) t) k→Past g inp k→Tot g inp (.T t) k
  | .mk a p b,k=>by
    intro hg hk ha hp
    simp only[goodT] at hg
    simp only[zbA] at ha
    obtain⟨h1,h2,h3,h4⟩:=hg
    have ih:=fun (k:Nat) (hk:k≤inp.length) (ha:At g inp (zaG (Eb (za8 g) E) p) k) (hp:Past g inp k)=>tot_P hE p k h3 hk ha hp
    have hI:Tot g inp (.I p b) k:=by
      rcases h2 with rfl | rfl | rfl | rfl
      · obtain⟨r,hr⟩:=ih k hk ha hp
        exact⟨_,.iplain hr⟩
      · obtain⟨r,hr⟩:=ih k hk ha hp
        exact⟨_,.imaybe hr⟩
      · obtain⟨r,hr⟩:=tot_Q hE h3 (h4 (.inl rfl)) ih _ k (Nat.le_refl _) hk ha hp
        exact⟨_,.istar hr⟩
      · obtain⟨r,hr⟩:=tot_Q hE h3 (h4 (.inr rfl)) ih _ k (Nat.le_refl _) hk ha hp
        exact⟨_,.iplus hr⟩
    obtain⟨r,hr⟩:=hI
    rcases h1 with rfl | rfl | rfl
    · exact⟨_,.tplain hr⟩
    · exact⟨_,.tand hr⟩
    · exact⟨_,.tnot hr⟩
theorem tot_S {g:List Rule} {inp:Bytes} {E:List Bool} (hE:Ends' g E):∀ (s:List Term) (acc:Nt) (k:Nat),goodS (za8 g) E s→k≤inp.length→At g inp (zaP (Eb (za8 g) E) s) k→Past g inp k→Tot g inp (.S s acc) k
  | [],acc,k=>fun _ _ _ _=>⟨_,.snil⟩
  | t::s,acc,k=>by
    intro hg hk ha hp
    simp only[goodS] at hg
    simp only[zaP] at ha
    obtain⟨r,hr⟩:=tot_T hE t k hg.1 hk (fun b hb=>ha b (List.mem_append_left _ hb)) hp
    cases r with
    | none=>exact⟨_,.sfail hr⟩
    | some x=>
      obtain⟨e,m⟩:=x
      have hle:=hr.le hk _ _ rfl
      by_cases hek:e=k
      · subst hek
        have hem:=hr.empty hE hk hg.1 m rfl
        simp only[zb6] at hem
        obtain⟨r2,h2⟩:=tot_S hE s (jn acc m) e hg.2 hk (fun b hb=>ha b (List.mem_append_right _ (by rw[if_pos hem];exact hb))) hp
        exact⟨_,.sstep hr h2⟩
      · obtain⟨r2,h2⟩:=tot_S hE s (jn acc m) e hg.2 hle.2 (hp.at_ (by omega) hle.2 _) (hp.next (by omega))
        exact⟨_,.sstep hr h2⟩
theorem tot_C {g:List Rule} {inp:Bytes} {E:List Bool} (hE:Ends' g E):∀ (c:List (List Term)) (k:Nat),goodC (za8 g) E c→k≤inp.length→At g inp (zaJ (Eb (za8 g) E) c) k→Past g inp k→Tot g inp (.C c) k
  | [],k=>fun _ _ _ _=>⟨_,.cnil⟩
  | s::c,k=>by
    intro hg hk ha hp
    simp only[goodC] at hg
    simp only[zaJ] at ha
    obtain⟨r,hr⟩:=tot_S hE s .nil k hg.1 hk (fun b hb=>ha b (List.mem_append_left _ hb)) hp
    cases r with
    | some x=>exact⟨_,.chit hr⟩
    | none=>
      obtain⟨r2,h2⟩:=tot_C hE c k hg.2 hk (fun b hb=>ha b (List.mem_append_right _ hb)) hp
      exact⟨_,.cmiss hr h2⟩
 end
def cnt (M:Mat) (n i:Nat):Nat:=((List.range n).filter (fun j=>Wm M n i j)).length
theorem zeg {α : Type} {f h : α→Bool}:∀ (l:List α),(∀ x ∈ l,f x=true→h x=true)→(∃ x ∈ l,h x=true∧f x=false)→(l.filter f).length<(l.filter h).length
 | [],_,⟨x,hx,_⟩=>by simp at hx
 | a::l,h1,⟨x,hx,h2,h3⟩=>by
  have hle:(l.filter f).length≤(l.filter h).length:=by
   clear h2 h3 hx
   induction l with
   | nil=>simp
   | cons b l ih=>
    have hb:=h1 b (by simp)
    have:=ih (fun x hx=>h1 x (by simp at hx ⊢;rcases hx with h | h;exact .inl h;exact .inr (.inr h)))
    cases hf:f b with
    | true=>rw[List.filter_cons_of_pos (by rw[hf]),List.filter_cons_of_pos (hb hf)];simp;omega
    | false=>
     rw[List.filter_cons_of_neg (by rw[hf];simp)]
     cases hh:h b with
     | true=>rw[List.filter_cons_of_pos (by rw[hh])];simp;omega
     | false=>rw[List.filter_cons_of_neg (by rw[hh];simp)];exact this
  rcases List.mem_cons.1 hx with rfl | hx'
  ·rw[List.filter_cons_of_neg (by rw[h3];simp),List.filter_cons_of_pos h2]
   simp;omega
  ·have ih:=zeg l (fun x hx=>h1 x (by simp[hx])) ⟨x,hx',h2,h3⟩
   cases hf:f a with
   | true=>
    rw[List.filter_cons_of_pos (by rw[hf]),List.filter_cons_of_pos (h1 a (by simp) hf)]
    simp;omega
   | false=>
    rw[List.filter_cons_of_neg (by rw[hf];simp)]
    cases hh:h a with
    | true=>rw[List.filter_cons_of_pos (by rw[hh])];simp;omega
    | false=>rw[List.filter_cons_of_neg (by rw[hh];simp)];exact ih
theorem cnt_lt {M:Mat} {n i j:Nat} (hi:∀ i,i<n→Wm M n i i=false) (hj:j<n) (h:M i j=true):cnt M n j<cnt M n i:=by
 refine zeg _ ?_ ⟨j,by simpa using hj,zdB M n i j h,hi j hj⟩
 intro x hx hw
 exact zd9 M n j i x hj (zdB M n i j h) hw
theorem tot_rules {g:List Rule} {inp:Bytes} {E:List Bool} (hE:Ends' g E):∀ n k,inp.length - k≤n→k≤inp.length→∀ i (h:i<g.length),Tot g inp (.C g[i].choice) k:=by
 intro n
 induction n with
 | zero=>
  intro k hn hk
  have hp:Past g inp k:=fun k' h1 h2=>by omega
  suffices H:∀ m i (h:i<g.length),cnt (dirM (za8 g) E g) g.length i≤m→Tot g inp (.C g[i].choice) k from fun i h=>H _ i h (Nat.le_refl _)
  intro m
  induction m with
  | zero=>
   intro i h hm
   refine tot_C hE _ k (hE.good i h) hk ?_ hp
   intro b hb hl
   have hd:dirM (za8 g) E g i (idx0 (za8 g) b)=true:=(zcq h (by rw[zax];exact hE.pos)).2 (List.mem_map.2 ⟨b,hb,rfl⟩)
   have:=cnt_lt hE.left hl hd
   omega
  | succ m ih=>
   intro i h hm
   refine tot_C hE _ k (hE.good i h) hk ?_ hp
   intro b hb hl
   have hd:dirM (za8 g) E g i (idx0 (za8 g) b)=true:=(zcq h (by rw[zax];exact hE.pos)).2 (List.mem_map.2 ⟨b,hb,rfl⟩)
   have:=cnt_lt hE.left hl hd
   exact ih _ hl (by omega)
 | succ n ihn=>
  intro k hn hk
  have hp:Past g inp k:=fun k' h1 h2 i hi=>ihn k' (by omega) h2 i hi
  suffices H:∀ m i (h:i<g.length),cnt (dirM (za8 g) E g) g.length i≤m→Tot g inp (.C g[i].choice) k from fun i h=>H _ i h (Nat.le_refl _)
  intro m
  induction m with
  | zero=>
   intro i h hm
   refine tot_C hE _ k (hE.good i h) hk ?_ hp
   intro b hb hl
   have hd:dirM (za8 g) E g i (idx0 (za8 g) b)=true:=(zcq h (by rw[zax];exact hE.pos)).2 (List.mem_map.2 ⟨b,hb,rfl⟩)
   have:=cnt_lt hE.left hl hd
   omega
  | succ m ih=>
   intro i h hm
   refine tot_C hE _ k (hE.good i h) hk ?_ hp
   intro b hb hl
   have hd:dirM (za8 g) E g i (idx0 (za8 g) b)=true:=(zcq h (by rw[zax];exact hE.pos)).2 (List.mem_map.2 ⟨b,hb,rfl⟩)
   have:=cnt_lt hE.left hl hd
   exact ih _ hl (by omega)
theorem zer {g : List Rule} {inp : Bytes} {E : List Bool} (hE : Ends' g E) : ∃ r, Ev g inp (.C (g[0]'hE.pos).choice) 0 r := tot_rules hE _ 0 (Nat.le_refl _) (Nat.zero_le _) 0 hE.pos
end Go.Proofs.YtiganlkabilblaaGreatDoor
namespace Thk
mutual
def okP:Piece→Prop
  | .lit b=>b≠[]∧b.length≤20
  | .cls l=>l.length≤20
  | .name b=>b.length≤12
  | .any=>True
  | .group c=>okC c
def okT:Term→Prop
  | .mk a p b=>(a=0∨a=38∨a=33)∧(b=0∨b=63∨b=42∨b=43)∧okP p
def okS:List Term→Prop
  | []=>True
  | t::s=>okT t∧okS s
def okC:List (List Term)→Prop
  | []=>True
  | s::c=>okS s∧okC c
 end
def okTok (t:Tok):Prop:=(t.kind = .lit→t.text≠[]∧t.text.length≤20)∧(t.kind = .cls→t.spans.length≤20)∧(t.kind = .name→t.text.length≤12)
def OkToks (ts:List Tok):Prop:=∀ t ∈ ts,okTok t
theorem OkToks.tail {ts:List Tok} (h:OkToks ts):OkToks ts.tail:=fun t ht=>h t (List.mem_of_mem_tail ht)
theorem OkToks.ahead {ts:List Tok} (h:OkToks ts):OkToks (zao ts).2:=by
 unfold zao
 repeat' split
 all_goals first | exact h | exact h.tail
theorem OkToks.behind {ts:List Tok} (h:OkToks ts):OkToks (zak ts).2:=by
 unfold zak
 repeat' split
 all_goals first | exact h | exact h.tail
theorem ahead_sign (ts:List Tok):(zao ts).1=0∨(zao ts).1=38∨(zao ts).1=33:=by
 unfold zao
 repeat' split
 all_goals first | (rename_i h;exact .inr h) | exact .inl rfl
theorem behind_sign (ts:List Tok):(zak ts).1=0∨(zak ts).1=63∨(zak ts).1=42∨(zak ts).1=43:=by
 unfold zak
 repeat' split
 all_goals first | (rename_i h;exact .inr h) | exact .inl rfl
def OP1 (ts:List Tok) (r:Res Piece):Prop:=OkToks ts→∀ p rest,r = .ok p rest→okP p∧OkToks rest
def OP2 (ts:List Tok) (r:Res Term):Prop:=OkToks ts→∀ p rest,r = .ok p rest→okT p∧OkToks rest
def OP3 (ts:List Tok) (r:Res Seq):Prop:=OkToks ts→∀ p rest,r = .ok p rest→okS p∧OkToks rest
def OP4 (ts:List Tok) (r:Res zat):Prop:=OkToks ts→∀ p rest,r = .ok p rest→okC p∧OkToks rest
theorem op_plain {ts:List Tok} {p:Piece} (h:zad (hd ts)=some p):OP1 ts (.ok p ts.tail):=by
 intro hs p' rest e
 cases e
 cases ts with
 | nil=>simp[hd,zad,badT] at h
 | cons t ts=>
  obtain⟨h1,h2,h3⟩:=hs t (by simp)
  refine⟨?_,hs.tail⟩
  simp only[hd,List.headD_cons] at h
  unfold zad at h
  split at h
  ·rename_i hk;cases h;simp only[okP];exact h3 hk
  ·rename_i hk;cases h;simp only[okP];exact h1 hk
  ·rename_i hk;cases h;simp only[okP];exact h2 hk
  ·split at h
   ·cases h;simp[okP]
   ·cases h
  ·cases h
theorem PChoice.ok {d:Nat} {ts:List Tok} {c:zat} {rest:List Tok} (h:PChoice d ts (.ok c rest)) (hs:OkToks ts):okC c∧OkToks rest:=by
 refine (PChoice.rec (motive_1:=fun _ ts r _=>OP1 ts r) (motive_2:=fun _ ts r _=>OP2 ts r) (motive_3:=fun _ ts r _=>OP3 ts r) (motive_4:=fun _ ts r _=>OP4 ts r) ?_ ?_ ?_ ?_ ?_ ?_ ?_ ?_ ?_ ?_ ?_ ?_ ?_ ?_ ?_ ?_ h:OP4 ts (.ok c rest)) hs c rest rfl
 ·intro d ts p h;exact op_plain h
 ·intro d ts h h' hs p rest e;cases e
 ·intro ts h hs p rest e;cases e
 ·intro d ts c rest h1 h2 h3 h4 ih hs p rest' e
  cases e
  obtain⟨i1,i2⟩:=ih hs.tail _ _ rfl
  exact⟨by simp only[okP];exact i1,i2.tail⟩
 ·intros;intro hs p rest e;cases e
 ·intros;intro hs p rest e;cases e
 ·intro d ts p rest h ih hs t rest' e
  cases e
  obtain⟨i1,i2⟩:=ih hs.ahead _ _ rfl
  exact⟨by simp only[okT];exact⟨ahead_sign ts,behind_sign rest,i1⟩,i2.behind⟩
 ·intros;intro hs p rest e;cases e
 ·intro d ts h hs p rest e
  cases e
  exact⟨by simp[okS],hs⟩
 ·intro d ts t rest s rest' h1 h2 h3 ih1 ih2 hs p r e
  cases e
  obtain⟨i1,i2⟩:=ih1 hs _ _ rfl
  obtain⟨j1,j2⟩:=ih2 i2 _ _ rfl
  exact⟨by simp only[okS];exact⟨i1,j1⟩,j2⟩
 ·intros;intro hs p rest e;cases e
 ·intros;intro hs p rest e;cases e
 ·intro d ts s rest h1 h2 ih hs p r e
  cases e
  obtain⟨i1,i2⟩:=ih hs _ _ rfl
  exact⟨by simp only[okC];exact⟨i1,trivial⟩,i2⟩
 ·intro d ts s rest c rest' h1 h2 h3 ih1 ih2 hs p r e
  cases e
  obtain⟨i1,i2⟩:=ih1 hs _ _ rfl
  obtain⟨j1,j2⟩:=ih2 i2.tail _ _ rfl
  exact⟨by simp only[okC];exact⟨i1,j1⟩,j2⟩
 ·intros;intro hs p rest e;cases e
 ·intros;intro hs p rest e;cases e
theorem zee {l:Bytes} {n:Nat} {m:UInt8} {k:Nat} (h:zaH l n m k=true) : 1≤k∧k≤20:=by
 unfold zaH at h
 simp at h
 omega
theorem tokL_okTok (l:Bytes):okTok (tokL l):=by
 have hb:okTok badT:=⟨by simp[badT],by simp[badT],by simp[badT]⟩
 cases l with
 | nil=>exact⟨by simp[tokL],by simp[tokL],by simp[tokL]⟩
 | cons c t=>
  simp only[tokL]
  split
  ·unfold nameT
   split
   ·exact hb
   ·refine⟨by simp,by simp,fun _=>?_⟩
    rw[List.length_take];omega
  ·split
   ·exact⟨by simp,by simp,by simp⟩
   ·split
    ·unfold litT
     split
     ·rename_i h
      have:=zee h
      exact⟨fun _=>⟨fun e=>by simp only[] at e;rw[e] at this;simp at this,this.2⟩,by simp,by simp⟩
     ·exact hb
    ·split
     ·unfold clsT
      split
      ·rename_i h
       exact⟨by simp,fun _=>(zee h).2,by simp⟩
      ·exact hb
     ·split
      ·exact⟨by simp,by simp,by simp⟩
      ·exact hb
theorem zeB:∀ (f pos:Nat) (l:Bytes),OkToks (toksF f pos l)
 | 0,_,_=>by intro t ht;simp[toksF] at ht
 | f+1,pos,l=>by
  intro t ht
  simp only[toksF,List.mem_cons] at ht
  rcases ht with rfl | ht
  ·exact tokL_okTok _
  ·split at ht
   ·simp at ht
   ·exact zeB f _ _ t ht
theorem PRule.ok' {n:Nat} {ts:List Tok} {r:Rule} {rest:List Tok} (h:PRule n ts (.ok r rest)) (hs:OkToks ts):okC r.choice∧r.name.length≤12∧OkToks rest:=by
 cases h with
 | ok hk _ _ hc=>
  obtain⟨i1,i2⟩:=hc.ok hs.tail.tail
  refine⟨i1,?_,i2⟩
  cases ts with
  | nil=>simp[hd,badT] at hk
  | cons t ts=>simp only[hd,List.headD_cons] at hk ⊢;exact (hs t (by simp)).2.2 hk
theorem PGram.ok' {n:Nat} {ts:List Tok} {g:List Rule} (h:PGram n ts (.ok g)) (hs:OkToks ts):∀ r ∈ g,okC r.choice∧r.name.length≤12:=by
 generalize hres:(Except.ok g:Except (Nat × Nat) (List Rule))=res at h
 induction h generalizing g with
 | last hr hk=>
  cases hres
  intro r hr'
  simp only[List.mem_singleton] at hr'
  subst hr'
  have:=hr.ok' hs
  exact⟨this.1,this.2.1⟩
 | more hr hk _ ih=>
  cases hres
  intro r hr'
  have h1:=hr.ok' hs
  rcases List.mem_cons.1 hr' with rfl | hr'
  ·exact⟨h1.1,h1.2.1⟩
  ·exact ih h1.2.2 rfl r hr'
 | err hr=>cases hres
 | later _ _ _ _=>cases hres
end Thk
namespace Go.Proofs.YtiganlkabilblaaGreatDoor
open Thk
mutual
theorem good_P {names:List Bytes} {E:List Bool}:∀ p:Piece,okP p→someP (unkT names) p=false→(∀ b,p = .name b→names.contains b=true)→someP (loopT (Eb names E)) p=false→goodP names E p
  | .name b=>by intro _ _ h _;simp only[goodP];exact h b rfl
  | .lit b=>by intro h _ _ _;simp only[okP] at h;simp only[goodP];exact h
  | .cls l=>by intro h _ _ _;simp only[okP] at h;simp only[goodP];exact h
  | .any=>by intro _ _ _ _;simp[goodP]
  | .group c=>by
    intro h h1 _ h2
    simp only[okP] at h
    simp only[someP] at h1 h2
    simp only[goodP]
    exact good_C c h h1 h2
theorem good_T {names:List Bytes} {E:List Bool}:∀ t:Term,okT t→someT (unkT names) t=false→someT (loopT (Eb names E)) t=false→goodT names E t
  | .mk a p b=>by
    intro h h1 h2
    obtain⟨f1,f2⟩:=zc9 h1
    simp only[okT] at h
    simp only[someT,Bool.or_eq_false_iff] at h2
    simp only[goodT]
    refine⟨h.1,h.2.1,good_P p h.2.2 f1 f2 h2.2,?_⟩
    intro hb
    have:=h2.1
    simp only[loopT,Term.behind,Term.piece] at this
    rcases hb with rfl | rfl<;>simpa using this
theorem good_S {names:List Bytes} {E:List Bool}:∀ s:List Term,okS s→someS (unkT names) s=false→someS (loopT (Eb names E)) s=false→goodS names E s
  | []=>by intro _ _ _;simp[goodS]
  | t::s=>by
    intro h h1 h2
    simp only[okS] at h
    simp only[someS,Bool.or_eq_false_iff] at h1 h2
    simp only[goodS]
    exact⟨good_T t h.1 h1.1 h2.1,good_S s h.2 h1.2 h2.2⟩
theorem good_C {names:List Bytes} {E:List Bool}:∀ c:List (List Term),okC c→someC (unkT names) c=false→someC (loopT (Eb names E)) c=false→goodC names E c
  | []=>by intro _ _ _;simp[goodC]
  | s::c=>by
    intro h h1 h2
    simp only[okC] at h
    simp only[someC,Bool.or_eq_false_iff] at h1 h2
    simp only[goodC]
    exact⟨good_S s h.1 h1.1 h2.1,good_C c h.2 h1.2 h2.2⟩
 end
theorem PAll.ok' {l:List UInt8} {g:List Rule} {E:List Bool} (h:PAll l (.ok (g,E))):∀ r ∈ g,okC r.choice∧r.name.length≤12:=by
 cases h with
 | ok h _=>
  cases h with
  | read hl hg=>exact hg.ok' (zeB _ _ _)
theorem PAll.ends {l:List UInt8} {g:List Rule} {E:List Bool} (h:PAll l (.ok (g,E))):Ends' g E:=by
 have hok:=h.ok'
 cases h with
 | ok hr hl=>
  cases hl with
  | ok h1 h2 h3 h4 h5 h6 h7=>
   refine⟨fun i hi=>good_C _ (hok _ (List.getElem_mem hi)).1 (h2 i hi) (h6 i hi),h4,h7,?_⟩
   cases hr with
   | read hl hg=>exact List.length_pos_iff.2 (hg.len (by omega)).1
end Go.Proofs.YtiganlkabilblaaGreatDoor
namespace Thk
inductive Nd where
 | choice (ks:List Nat)
 | seq (ks:List Nat)
 | ahead (k:Nat) (wanted:Bool)
 | maybe (k:Nat)
 | plus (k:Nat)
 | name (i:Nat)
 | lit (b:Bytes)
 | cls (l:List Span)
 | any
abbrev NEv:=Nat→Nat→Option Out
def chN (F:NEv):List Nat→Nat→Option Out
 | [],_=>some none
 | j::js,k=>match F j k with
  | none=>none
  | some none=>chN F js k
  | some (some x)=>some (some x)
def sqN (F:NEv):List Nat→Nat→Nt→Option Out
 | [],k,acc=>some (some (k,acc))
 | j::js,k,acc=>match F j k with
  | none=>none
  | some none=>some none
  | some (some x)=>sqN F js x.1 (jn acc x.2)
def plN (F:NEv) (n j k:Nat):Option Out:=match F j k with
 | none=>none
 | some none=>some none
 | some (some x)=>match F n x.1 with
  | none=>none
  | some none=>some (some x)
  | some (some y)=>some (some (y.1,jn x.2 y.2))
def bodyN (rules:List Nat) (inp:Bytes) (F:NEv) (n k:Nat):Nd→Option Out
 | .choice ks=>chN F ks k
 | .seq ks=>sqN F ks k .nil
 | .ahead j w=>(F j k).map (zb8 k w)
 | .maybe j=>(F j k).map (zc6 k)
 | .plus j=>plN F n j k
 | .name i=>match rules[i]? with
  | none=>none
  | some j=>(F j k).map (zb2 i k)
 | .lit b=>some (zbL inp k b)
 | .cls l=>some (zaO inp k (zaT l))
 | .any=>some (zaO inp k (fun _=>true))
def evN (N:List Nd) (rules:List Nat) (inp:Bytes):Nat→NEv
 | 0,_,_=>none
 | f+1,n,k=>match N[n]? with
  | none=>none
  | some d=>bodyN rules inp (evN N rules inp f) n k d
def LeN (F G:NEv):Prop:=∀ i k v,F i k=some v→G i k=some v
theorem chN_mono {F G:NEv} (h:LeN F G):∀ js k v,chN F js k=some v→chN G js k=some v
 | [],k,v,e=>e
 | j::js,k,v,e=>by
  simp only[chN] at e ⊢
  cases hF:F j k with
  | none=>rw[hF] at e;cases e
  | some o=>
   rw[h j k o hF]
   rw[hF] at e
   cases o with
   | none=>exact chN_mono h js k v e
   | some x=>exact e
theorem sqN_mono {F G:NEv} (h:LeN F G):∀ js k acc v,sqN F js k acc=some v→sqN G js k acc=some v
 | [],k,acc,v,e=>e
 | j::js,k,acc,v,e=>by
  simp only[sqN] at e ⊢
  cases hF:F j k with
  | none=>rw[hF] at e;cases e
  | some o=>
   rw[h j k o hF]
   rw[hF] at e
   cases o with
   | none=>exact e
   | some x=>exact sqN_mono h js x.1 _ v e
theorem plN_mono {F G:NEv} (h:LeN F G) {n j k:Nat} {v:Out} (e:plN F n j k=some v):plN G n j k=some v:=by
 unfold plN at e ⊢
 cases hF:F j k with
 | none=>rw[hF] at e;cases e
 | some o=>
  rw[h j k o hF]
  rw[hF] at e
  cases o with
  | none=>exact e
  | some x=>
   simp only[] at e ⊢
   cases hF2:F n x.1 with
   | none=>rw[hF2] at e;cases e
   | some o2=>
    rw[h n x.1 o2 hF2]
    rw[hF2] at e
    exact e
theorem map_mono {F G:NEv} (h:LeN F G) {j k:Nat} {t:Out→Out} {v:Out} (e:(F j k).map t=some v):(G j k).map t=some v:=by
 cases hF:F j k with
 | none=>rw[hF] at e;cases e
 | some o=>rw[h j k o hF];rw[hF] at e;exact e
theorem bodyN_mono {rules:List Nat} {inp:Bytes} {F G:NEv} (h:LeN F G) {n k:Nat} {d:Nd} {v:Out} (e:bodyN rules inp F n k d=some v):bodyN rules inp G n k d=some v:=by
 cases d with
 | choice ks=>exact chN_mono h _ _ _ e
 | seq ks=>exact sqN_mono h _ _ _ _ e
 | ahead j w=>exact map_mono h e
 | maybe j=>exact map_mono h e
 | plus j=>exact plN_mono h e
 | name i=>
  simp only[bodyN] at e ⊢
  cases hr:rules[i]? with
  | none=>rw[hr] at e;cases e
  | some j=>rw[hr] at e;exact map_mono h e
 | lit b=>exact e
 | cls l=>exact e
 | any=>exact e
theorem evN_step (N:List Nd) (rules:List Nat) (inp:Bytes):∀ f,LeN (evN N rules inp f) (evN N rules inp (f+1))
 | 0=>by intro i k v h;simp[evN] at h
 | f+1=>by
  intro i k v h
  simp only[evN] at h ⊢
  cases hx:N[i]? with
  | none=>rw[hx] at h;cases h
  | some e=>
   rw[hx] at h
   exact bodyN_mono (evN_step N rules inp f) h
theorem zbJ {N:List Nd} {rules:List Nat} {inp:Bytes} {f d:Nat} (hf:f≤d):LeN (evN N rules inp f) (evN N rules inp d):=by
  induction d with
  | zero => have : f = 0 := by omega
            subst this;intro i k v h;exact h
  | succ d ih=>
    by_cases h:f=d+1
    · subst h;intro i k v h;exact h
    · intro i k v hv;exact evN_step N rules inp d i k v (ih (by omega) i k v hv)
theorem evN_det {N:List Nd} {rules:List Nat} {inp:Bytes} {f d i k:Nat} {v u:Out} (h1:evN N rules inp f i k=some v) (h2:evN N rules inp d i k=some u):v=u:=by
 have a:=zbJ (Nat.le_max_left f d) i k v h1
 have b:=zbJ (Nat.le_max_right f d) i k u h2
 rw[a] at b
 exact Option.some.inj b
mutual
def DnP (N:List Nd) (names:List Bytes) (n:Nat):Piece→Prop
  | .name b=>N[n]? = some (.name (Go.Proofs.YtiganlkabilblaaGreatDoor.idx0 names b))
  | .lit b=>N[n]? = some (.lit b)
  | .cls l=>N[n]? = some (.cls l)
  | .any=>N[n]? = some .any
  | .group c=>∃ ks,N[n]? = some (.choice ks)∧DnC N names ks c
def DnT (N:List Nd) (names:List Bytes) (n:Nat):Term→Prop
  | .mk a p b=>∃ i,(if a=0 then n=i else N[n]? = some (.ahead i (a == 38)))∧(∃ j,(if b=0 then i=j else if b=63 then N[i]? = some (.maybe j) else if b=43 then N[i]? = some (.plus j) else ∃ q,N[i]? = some (.maybe q)∧N[q]? = some (.plus j))∧DnP N names j p)
def DnS (N:List Nd) (names:List Bytes):List Nat→List Term→Prop
  | ks,[]=>ks=[]
  | ks,t::s=>∃ k ks',ks=k::ks'∧DnT N names k t∧DnS N names ks' s
def DnC (N:List Nd) (names:List Bytes):List Nat→List (List Term)→Prop
  | qs,[]=>qs=[]
  | qs,s::c=>∃ q qs' ks,qs=q::qs'∧N[q]? = some (.seq ks)∧DnS N names ks s∧DnC N names qs' c
 end
end Thk
namespace Go.Proofs.YtiganlkabilblaaGreatDoor
open Thk
def DnI (N:List Nd) (names:List Bytes) (i:Nat) (p:Piece) (b:UInt8):Prop:=∃ j,(if b=0 then i=j else if b=63 then N[i]? = some (.maybe j) else if b=43 then N[i]? = some (.plus j) else ∃ q,N[i]? = some (.maybe q)∧N[q]? = some (.plus j))∧DnP N names j p
def DnR (N:List Nd) (rules:List Nat) (g:List Rule):Prop:=rules.length=g.length∧∀ i (h:i<g.length) (h2:i<rules.length),DnP N (za8 g) rules[i] (.group g[i].choice)
def SimN (N:List Nd) (rules:List Nat) (inp:Bytes) (names:List Bytes):Ex→Nat→Out→Prop
 | .P p,k,r=>∀ i,DnP N names i p→∃ f,evN N rules inp f i k=some r
 | .Q p,k,r=>∀ q i,N[q]? = some (.plus i)→DnP N names i p→∃ f,evN N rules inp f q k=some r
 | .I p b,k,r=>∀ i,DnI N names i p b→∃ f,evN N rules inp f i k=some r
 | .T t,k,r=>∀ i,DnT N names i t→∃ f,evN N rules inp f i k=some r
 | .S s acc,k,r=>∀ is,DnS N names is s→∃ f,∀ d,f≤d→sqN (evN N rules inp d) is k acc=some r
 | .C c,k,r=>∀ is,DnC N names is c→∃ f,∀ d,f≤d→chN (evN N rules inp d) is k=some r
theorem zbm {N:List Nd} {rules:List Nat} {inp:Bytes} {i:Nat} {d:Nd} (h:N[i]? = some d) (f k:Nat):evN N rules inp (f+1) i k=bodyN rules inp (evN N rules inp f) i k d:=by
 simp only[evN,h]
theorem Ev.simN {g:List Rule} {inp:Bytes} {N:List Nd} {rules:List Nat} (hR:DnR N rules g) {x:Ex} {k:Nat} {r:Out} (h:Ev g inp x k r):SimN N rules inp (za8 g) x k r:=by
 induction h with
 | cnil=>
  intro is hd
  simp only[DnC] at hd
  subst hd
  exact⟨0,fun d _=>rfl⟩
 | @chit s c k x _ ih=>
  intro is hd
  simp only[DnC] at hd
  obtain⟨q,qs,ks,rfl,h1,h2,h3⟩:=hd
  obtain⟨f,hf⟩:=ih ks h2
  refine⟨f+1,fun d hd=>?_⟩
  obtain⟨d',rfl⟩:∃ d',d=d'+1:=⟨d - 1,by omega⟩
  simp only[chN]
  rw[zbm h1]
  simp only[bodyN]
  rw[hf d' (by omega)]
 | @cmiss s c k r _ _ ih1 ih2=>
  intro is hd
  simp only[DnC] at hd
  obtain⟨q,qs,ks,rfl,h1,h2,h3⟩:=hd
  obtain⟨f,hf⟩:=ih1 ks h2
  obtain⟨f2,hf2⟩:=ih2 qs h3
  refine⟨max f f2+1,fun d hd=>?_⟩
  obtain⟨d',rfl⟩:∃ d',d=d'+1:=⟨d - 1,by omega⟩
  simp only[chN]
  rw[zbm h1]
  simp only[bodyN]
  rw[hf d' (by omega)]
  exact hf2 (d'+1) (by omega)
 | snil=>
  intro is hd
  simp only[DnS] at hd
  subst hd
  exact⟨0,fun d _=>rfl⟩
 | @sfail t s acc k _ ih=>
  intro is hd
  simp only[DnS] at hd
  obtain⟨q,qs,rfl,h1,h2⟩:=hd
  obtain⟨f,hf⟩:=ih q h1
  refine⟨f,fun d hd=>?_⟩
  simp only[sqN]
  rw[zbJ hd _ _ _ hf]
 | @sstep t s acc k e m r _ _ ih1 ih2=>
  intro is hd
  simp only[DnS] at hd
  obtain⟨q,qs,rfl,h1,h2⟩:=hd
  obtain⟨f,hf⟩:=ih1 q h1
  obtain⟨f2,hf2⟩:=ih2 qs h2
  refine⟨max f f2,fun d hd=>?_⟩
  simp only[sqN]
  rw[zbJ (show f≤d by omega) _ _ _ hf]
  exact hf2 d (by omega)
 | @tplain p b k r _ ih=>
  intro i hd
  simp only[DnT] at hd
  obtain⟨i',h1,h2⟩:=hd
  rw[if_pos trivial] at h1
  subst h1
  exact ih i h2
 | @tand p b k r _ ih=>
  intro i hd
  simp only[DnT] at hd
  obtain⟨i',h1,h2⟩:=hd
  rw[if_neg (by decide)] at h1
  obtain⟨f,hf⟩:=ih i' h2
  refine⟨f+1,?_⟩
  rw[zbm h1]
  simp only[bodyN]
  rw[hf];rfl
 | @tnot p b k r _ ih=>
  intro i hd
  simp only[DnT] at hd
  obtain⟨i',h1,h2⟩:=hd
  rw[if_neg (by decide)] at h1
  obtain⟨f,hf⟩:=ih i' h2
  refine⟨f+1,?_⟩
  rw[zbm h1]
  simp only[bodyN]
  rw[hf];rfl
 | iplain _ ih=>
  intro i hd
  obtain⟨j,h1,h2⟩:=hd
  rw[if_pos rfl] at h1
  subst h1
  exact ih i h2
 | @imaybe p k r _ ih=>
  intro i hd
  obtain⟨j,h1,h2⟩:=hd
  rw[if_neg (by decide),if_pos rfl] at h1
  obtain⟨f,hf⟩:=ih j h2
  refine⟨f+1,?_⟩
  rw[zbm h1]
  simp only[bodyN]
  rw[hf];rfl
 | @istar p k r _ ih=>
  intro i hd
  obtain⟨j,h1,h2⟩:=hd
  rw[if_neg (by decide),if_neg (by decide),if_neg (by decide)] at h1
  obtain⟨q,h3,h4⟩:=h1
  obtain⟨f,hf⟩:=ih q j h4 h2
  refine⟨f+1,?_⟩
  rw[zbm h3]
  simp only[bodyN]
  rw[hf];rfl
 | @iplus p k r _ ih=>
  intro i hd
  obtain⟨j,h1,h2⟩:=hd
  rw[if_neg (by decide),if_neg (by decide),if_pos rfl] at h1
  exact ih i j h1 h2
 | qno _ ih=>
  intro q i hq hd
  obtain⟨f,hf⟩:=ih i hd
  refine⟨f+1,?_⟩
  rw[zbm hq]
  simp only[bodyN,plN]
  rw[hf]
 | @qlast p k e m _ _ ih1 ih2=>
  intro q i hq hd
  obtain⟨f,hf⟩:=ih1 i hd
  obtain⟨f2,hf2⟩:=ih2 q i hq hd
  refine⟨max f f2+1,?_⟩
  rw[zbm hq]
  simp only[bodyN,plN]
  rw[zbJ (Nat.le_max_left f f2) _ _ _ hf]
  simp only[]
  rw[zbJ (Nat.le_max_right f f2) _ _ _ hf2]
 | @qmore p k e m e2 m2 _ _ ih1 ih2=>
  intro q i hq hd
  obtain⟨f,hf⟩:=ih1 i hd
  obtain⟨f2,hf2⟩:=ih2 q i hq hd
  refine⟨max f f2+1,?_⟩
  rw[zbm hq]
  simp only[bodyN,plN]
  rw[zbJ (Nat.le_max_left f f2) _ _ _ hf]
  simp only[]
  rw[zbJ (Nat.le_max_right f f2) _ _ _ hf2]
 | @pname b k r hlt hc _ ih=>
  intro i hd
  simp only[DnP] at hd
  have hl2:idx0 (za8 g) b<rules.length:=by rw[hR.1];exact hlt
  have hb:=hR.2 _ hlt hl2
  simp only[DnP] at hb
  obtain⟨qs,hq1,hq2⟩:=hb
  obtain⟨f,hf⟩:=ih qs hq2
  refine⟨f+1+1,?_⟩
  rw[zbm hd]
  simp only[bodyN]
  rw[List.getElem?_eq_getElem hl2]
  simp only[]
  rw[zbm hq1]
  simp only[bodyN]
  rw[hf f (Nat.le_refl _)];rfl
 | @plit b k hb=>
  intro i hd
  simp only[DnP] at hd
  exact⟨1,by rw[zbm hd];rfl⟩
 | @pcls l k hb=>
  intro i hd
  simp only[DnP] at hd
  exact⟨1,by rw[zbm hd];rfl⟩
 | @pany k=>
  intro i hd
  simp only[DnP] at hd
  exact⟨1,by rw[zbm hd];rfl⟩
 | @pgroup c k r _ ih=>
  intro i hd
  simp only[DnP] at hd
  obtain⟨qs,h1,h2⟩:=hd
  obtain⟨f,hf⟩:=ih qs h2
  refine⟨f+1,?_⟩
  rw[zbm h1]
  exact hf f (Nat.le_refl _)
end Go.Proofs.YtiganlkabilblaaGreatDoor
