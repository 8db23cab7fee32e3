import Derived.Test.YtiganlkabilblaaGreatDoorVL13
set_option linter.all false
set_option maxHeartbeats 64000000
set_option maxRecDepth 100000
namespace Go.Proofs.YtiganlkabilblaaGreatDoor
open Thk
theorem Ev.det {g:List ze} {inp:z7} {x:Ex} {k:Nat} {r:Out} (h:Ev g inp x k r):∀ r2,Ev g inp x k r2→r=r2:=by
 induction h with
 | cnil=>intro r2 h2;cases h2;rfl
 | chit _ ih=>
  intro r2 h2
  cases h2 with
  | chit a=>exact ih _ a
  | cmiss a _=>exact absurd (ih _ a) (by simp)
 | cmiss _ _ ih1 ih2=>
  intro r2 h2
  cases h2 with
  | chit a=>exact absurd (ih1 _ a) (by simp)
  | cmiss _ b=>exact ih2 _ b
 | snil=>intro r2 h2;cases h2;rfl
 | sfail _ ih=>
  intro r2 h2
  cases h2 with
  | sfail _=>rfl
  | sstep a _=>exact absurd (ih _ a) (by simp)
 | sstep _ _ ih1 ih2=>
  intro r2 h2
  cases h2 with
  | sfail a=>exact absurd (ih1 _ a) (by simp)
  | sstep a b=>
   have e:=ih1 _ a
   simp only[Option.some.injEq,Prod.mk.injEq] at e
   obtain⟨rfl,rfl⟩:=e
   exact ih2 _ b
 | tplain _ ih=>intro r2 h2;cases h2 with | tplain a=>exact ih _ a
 | tand _ ih=>intro r2 h2;cases h2 with | tand a=>rw[ih _ a]
 | tnot _ ih=>intro r2 h2;cases h2 with | tnot a=>rw[ih _ a]
 | iplain _ ih=>intro r2 h2;cases h2 with | iplain a=>exact ih _ a
 | imaybe _ ih=>intro r2 h2;cases h2 with | imaybe a=>rw[ih _ a]
 | istar _ ih=>intro r2 h2;cases h2 with | istar a=>rw[ih _ a]
 | iplus _ ih=>intro r2 h2;cases h2 with | iplus a=>exact ih _ a
 | qno _ ih=>
  intro r2 h2
  cases h2 with
  | qno _=>rfl
  | qlast a _=>exact absurd (ih _ a) (by simp)
  | qmore a _=>exact absurd (ih _ a) (by simp)
 | qlast _ _ ih1 ih2=>
  intro r2 h2
  cases h2 with
  | qno a=>exact absurd (ih1 _ a) (by simp)
  | qlast a _=>exact ih1 _ a
  | qmore a b=>
   have e:=ih1 _ a
   simp only[Option.some.injEq,Prod.mk.injEq] at e
   obtain⟨rfl,rfl⟩:=e
   exact absurd (ih2 _ b) (by simp)
 | qmore _ _ ih1 ih2=>
  intro r2 h2
  cases h2 with
  | qno a=>exact absurd (ih1 _ a) (by simp)
  | qlast a b=>
   have e:=ih1 _ a
   simp only[Option.some.injEq,Prod.mk.injEq] at e
   obtain⟨rfl,rfl⟩:=e
   exact absurd (ih2 _ b) (by simp)
  | qmore a b=>
   have e:=ih1 _ a
   simp only[Option.some.injEq,Prod.mk.injEq] at e
   obtain⟨rfl,rfl⟩:=e
   have e2:=ih2 _ b
   simp only[Option.some.injEq,Prod.mk.injEq] at e2
   obtain⟨rfl,rfl⟩:=e2
   rfl
 | pname _ _ _ ih=>intro r2 h2;cases h2 with | pname _ _ a=>rw[ih _ a]
 | plit _=>intro r2 h2;cases h2;rfl
 | pcls _=>intro r2 h2;cases h2;rfl
 | pany=>intro r2 h2;cases h2;rfl
 | pgroup _ ih=>intro r2 h2;cases h2 with | pgroup a=>exact ih _ a
end Go.Proofs.YtiganlkabilblaaGreatDoor
