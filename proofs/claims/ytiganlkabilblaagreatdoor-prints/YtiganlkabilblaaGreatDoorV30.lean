import Derived.Test.YtiganlkabilblaaGreatDoorV16
set_option linter.all false
set_option maxHeartbeats 64000000
set_option maxRecDepth 100000
namespace Go.Proofs.YtiganlkabilblaaGreatDoor
open Tryz
open Tryz renaming prog->P
open Option renaming some->S,none->N
open Value renaming int->I
open IntKind renaming i64->J
theorem Ev.det{g:List ze}{m:z7}{x:Ex}{k:Nat}{r:Out}(h:Ev g m x k r):∀f,Ev g m x k f->r=f:=by
 induction h with
 |cnil=>intro f c;cases c;rfl
 |chit _ d=>
  intro f c;cases c with
  |chit a=>exact d _ a|cmiss a _=>exact absurd (d _ a) (by simp)
 |cmiss _ _ i j=>
  intro f c;cases c with
  |chit a=>exact absurd (i _ a) (by simp)|cmiss _ b=>exact j _ b
 |snil=>intro f c;cases c;rfl
 |sfail _ d=>
  intro f c;cases c with
  |sfail _=>rfl|sstep a _=>exact absurd (d _ a) (by simp)
 |sstep _ _ i j=>
  intro f c;cases c with
  |sfail a=>exact absurd (i _ a) (by simp)|sstep a b=>have e:=i _ a;simp only[Option.some.injEq,Prod.mk.injEq]at e;obtain⟨rfl,rfl⟩:=e;exact j _ b
 |tplain _ d=>intro f c;cases c with|tplain a=>exact d _ a
 |tand _ d=>intro f c;cases c with|tand a=>rw[d _ a]
 |tnot _ d=>intro f c;cases c with|tnot a=>rw[d _ a]
 |iplain _ d=>intro f c;cases c with|iplain a=>exact d _ a
 |imaybe _ d=>intro f c;cases c with|imaybe a=>rw[d _ a]
 |istar _ d=>intro f c;cases c with|istar a=>rw[d _ a]
 |iplus _ d=>intro f c;cases c with|iplus a=>exact d _ a
 |qno _ d=>
  intro f c;cases c with
  |qno _=>rfl|qlast a _=>exact absurd (d _ a) (by simp)|qmore a _=>exact absurd (d _ a) (by simp)
 |qlast _ _ i j=>
  intro f c;cases c with
  |qno a=>exact absurd (i _ a) (by simp)|qlast a _=>exact i _ a|qmore a b=>have e:=i _ a;simp only[Option.some.injEq,Prod.mk.injEq]at e;obtain⟨rfl,rfl⟩:=e;exact absurd (j _ b) (by simp)
 |qmore _ _ i j=>
  intro f c;cases c with
  |qno a=>exact absurd (i _ a) (by simp)|qlast a b=>have e:=i _ a;simp only[Option.some.injEq,Prod.mk.injEq]at e;obtain⟨rfl,rfl⟩:=e;exact absurd (j _ b) (by simp)
  |qmore a b=>have e:=i _ a;simp only[Option.some.injEq,Prod.mk.injEq]at e;obtain⟨rfl,rfl⟩:=e;have l:=j _ b;simp only[Option.some.injEq,Prod.mk.injEq]at l;obtain⟨rfl,rfl⟩:=l;rfl
 |pname _ _ _ d=>intro f c;cases c with|pname _ _ a=>rw[d _ a]
 |plit _=>intro f c;cases c;rfl|pcls _=>intro f c;cases c;rfl|pany=>intro f c;cases c;rfl|pgroup _ d=>intro f c;cases c with|pgroup a=>exact d _ a
end Go.Proofs.YtiganlkabilblaaGreatDoor
