import Derived.Test.YtiganlkabilblaaGreatDoorV01
import Derived.Test.YtiganlkabilblaaGreatDoorV17
import Derived.Test.YtiganlkabilblaaGreatDoorV04
import Derived.Test.YtiganlkabilblaaGreatDoorV05
import Derived.Test.YtiganlkabilblaaGreatDoorV09
set_option linter.all false
set_option maxHeartbeats 64000000
set_option maxRecDepth 100000
namespace Go.Proofs.YtiganlkabilblaaGreatDoor
structure Stop (d:Nat) (pos:Nat) (tail:List UInt8):Prop where
 lets:Thk.ZQ tail=0
 none:Thk.zX d (TL pos tail)=false
 slash:(Thk.hd (TL pos tail)).kind≠.sign 47
 opt:(Thk.hd (TL pos tail)).kind≠.sign 63
 star:(Thk.hd (TL pos tail)).kind≠.sign 42
 plus:(Thk.hd (TL pos tail)).kind≠.sign 43
 arrow:(Thk.hd (TL pos tail)).kind≠.arrow
theorem zdX {ts:List Thk.Tok} (h1:(Thk.hd ts).kind≠.sign 63) (h2:(Thk.hd ts).kind≠.sign 42) (h3:(Thk.hd ts).kind≠.sign 43):Thk.Zg ts=(0,ts):=by
 unfold Thk.Zg
 split
 ·rename_i c hc
  rw[hc] at h1 h2 h3
  rw[if_neg]
  rintro (rfl | rfl | rfl)
  ·exact h1 rfl
  ·exact h2 rfl
  ·exact h3 rfl
 ·rfl
theorem Stop.behind {d pos:Nat} {tail:List UInt8} (h:Stop d pos tail):Thk.Zg (TL pos tail)=(0,TL pos tail):=zdX h.opt h.star h.plus
abbrev nmS:List UInt8:=[115]
abbrev zbT:List UInt8:=[110,117,109]
abbrev zbU:List UInt8:=[119,111,114,100]
theorem Zo.err {l:List UInt8} {res:Except (Nat × Nat) (List Thk.ze × List Bool)} {x:Nat × Nat} (h:Zo l res) (hl:l.length≤2000) (hg:Thk.ZU 0 (Thk.Qn l) (.error x)):res = .error x:=by
 cases h with
 | text h=>
  cases h with
  | long h=>omega
  | read _ h=>have:=hg.det h;cases this;rfl
 | rules h _=>
  cases h with
  | read _ h=>have:=hg.det h;cases this
 | ok h _=>
  cases h with
  | read _ h=>have:=hg.det h;cases this
abbrev numR:Thk.ze:=⟨zbT,[[.mk 0 (.cls [(48,57)]) 0,.mk 0 (.name zbT) 63]]⟩
abbrev zjz:Thk.ze:=⟨zbU,[[.mk 0 (.lit [97]) 0,.mk 0 (.name zbU) 0,.mk 0 (.lit [98]) 0],[.mk 0 (.lit [99]) 0,.mk 0 (.lit [97]) 63]]⟩
abbrev g3 (c:Thk.Z5):List Thk.ze:=[⟨nmS,[[.mk 0 (.group c) 0]]⟩,numR,zjz]
end Go.Proofs.YtiganlkabilblaaGreatDoor
namespace Go.Proofs.YtiganlkabilblaaGreatDoor
open Thk
theorem Ev.det {g:List ze} {inp:z7} {x:Ex} {k:Nat} {r:Out} (h:Ev g inp x k r):∀ r2,Ev g inp x k r2→r=r2:=by
 induction h with
 | cnil=>intro r2 h2;cases h2;rfl
 | chit _ ih=>
  intro r2 h2
  cases h2 with
  | chit a=>exact ih _ a
  | cmiss a _=>exact absurd (ih _ a) (by simp)
 | cmiss _ _ ih1 ih2=>
  intro r2 h2
  cases h2 with
  | chit a=>exact absurd (ih1 _ a) (by simp)
  | cmiss _ b=>exact ih2 _ b
 | snil=>intro r2 h2;cases h2;rfl
 | sfail _ ih=>
  intro r2 h2
  cases h2 with
  | sfail _=>rfl
  | sstep a _=>exact absurd (ih _ a) (by simp)
 | sstep _ _ ih1 ih2=>
  intro r2 h2
  cases h2 with
  | sfail a=>exact absurd (ih1 _ a) (by simp)
  | sstep a b=>
   have e:=ih1 _ a
   simp only[Option.some.injEq,Prod.mk.injEq] at e
   obtain⟨rfl,rfl⟩:=e
   exact ih2 _ b
 | tplain _ ih=>intro r2 h2;cases h2 with | tplain a=>exact ih _ a
 | tand _ ih=>intro r2 h2;cases h2 with | tand a=>rw[ih _ a]
 | tnot _ ih=>intro r2 h2;cases h2 with | tnot a=>rw[ih _ a]
 | iplain _ ih=>intro r2 h2;cases h2 with | iplain a=>exact ih _ a
 | imaybe _ ih=>intro r2 h2;cases h2 with | imaybe a=>rw[ih _ a]
 | istar _ ih=>intro r2 h2;cases h2 with | istar a=>rw[ih _ a]
 | iplus _ ih=>intro r2 h2;cases h2 with | iplus a=>exact ih _ a
 | qno _ ih=>
  intro r2 h2
  cases h2 with
  | qno _=>rfl
  | qlast a _=>exact absurd (ih _ a) (by simp)
  | qmore a _=>exact absurd (ih _ a) (by simp)
 | qlast _ _ ih1 ih2=>
  intro r2 h2
  cases h2 with
  | qno a=>exact absurd (ih1 _ a) (by simp)
  | qlast a _=>exact ih1 _ a
  | qmore a b=>
   have e:=ih1 _ a
   simp only[Option.some.injEq,Prod.mk.injEq] at e
   obtain⟨rfl,rfl⟩:=e
   exact absurd (ih2 _ b) (by simp)
 | qmore _ _ ih1 ih2=>
  intro r2 h2
  cases h2 with
  | qno a=>exact absurd (ih1 _ a) (by simp)
  | qlast a b=>
   have e:=ih1 _ a
   simp only[Option.some.injEq,Prod.mk.injEq] at e
   obtain⟨rfl,rfl⟩:=e
   exact absurd (ih2 _ b) (by simp)
  | qmore a b=>
   have e:=ih1 _ a
   simp only[Option.some.injEq,Prod.mk.injEq] at e
   obtain⟨rfl,rfl⟩:=e
   have e2:=ih2 _ b
   simp only[Option.some.injEq,Prod.mk.injEq] at e2
   obtain⟨rfl,rfl⟩:=e2
   rfl
 | pname _ _ _ ih=>intro r2 h2;cases h2 with | pname _ _ a=>rw[ih _ a]
 | plit _=>intro r2 h2;cases h2;rfl
 | pcls _=>intro r2 h2;cases h2;rfl
 | pany=>intro r2 h2;cases h2;rfl
 | pgroup _ ih=>intro r2 h2;cases h2 with | pgroup a=>exact ih _ a
end Go.Proofs.YtiganlkabilblaaGreatDoor
