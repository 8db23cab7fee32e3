import Derived.Test.YtiganlkabilblaaGreatDoorV01
import Derived.Test.YtiganlkabilblaaGreatDoorV16
import Derived.Test.YtiganlkabilblaaGreatDoorV04
import Derived.Test.YtiganlkabilblaaGreatDoorV08
set_option linter.all false
set_option maxHeartbeats 64000000
set_option maxRecDepth 100000
namespace Go.Proofs.YtiganlkabilblaaGreatDoor
open Tryz
open Tryz renaming prog->P
open Option renaming some->S,none->N
open Value renaming int->I
open IntKind renaming i64->J
structure Stop(d:Nat)(pos:Nat)(tail:List UInt8):Prop where
 lets:ZQ tail=0
 none:zX d (TL pos tail)=false
 slash:(hd (TL pos tail)).kind≠.sign 47
 opt:(hd (TL pos tail)).kind≠.sign 63
 star:(hd (TL pos tail)).kind≠.sign 42
 plus:(hd (TL pos tail)).kind≠.sign 43
 arrow:(hd (TL pos tail)).kind≠.arrow
theorem zdX{a:List Tok}(b:(hd a).kind≠.sign 63)(d:(hd a).kind≠.sign 42)(e:(hd a).kind≠.sign 43):Zg a=(0,a):=by
 unfold Zg;split
 ·rename_i c f;rw[f]at b d e;rw[if_neg];rintro(rfl|rfl|rfl);·exact b rfl
  ·exact d rfl
  ·exact e rfl
 ·rfl
theorem Stop.behind{d a:Nat}{b:List UInt8}(h:Stop d a b):Zg (TL a b)=(0,TL a b):=zdX h.opt h.star h.plus
def brk(b x:List UInt8):List UInt8:=40::(b++(x++(b++[41])))
abbrev nmS:List UInt8:=[115]
abbrev zbT:List UInt8:=[110,117,109]
abbrev zbU:List UInt8:=[119,111,114,100]
theorem Zo.err{l:List UInt8}{b:Except (Nat×Nat) (List ze×List Bool)}{x:Nat×Nat}(h:Zo l b)(c:l.length<=2000)(a:ZU 0 (Qn l) (.error x)):b=.error x:=by
 cases h with
 |text h=>
  cases h with
  |long h=>omega|read _ h=>have:=a.det h;cases this;rfl
 |rules h _=>
  cases h with
  |read _ h=>have:=a.det h;cases this
 |ok h _=>
  cases h with
  |read _ h=>have:=a.det h;cases this
theorem Zo.fine{l:List UInt8}{b:Except (Nat×Nat) (List ze×List Bool)}{g:List ze}(h:Zo l b)(e:l.length<=2000)(a:ZU 0 (Qn l) (.ok g))(d:∀x,¬Qh g (.error x)):∃y,b=.ok y:=by
 cases h with
 |text h=>
  cases h with
  |long h=>omega|read _ h=>have:=a.det h;cases this
 |rules h c=>
  cases h with
  |read _ h=>have:=a.det h;cases this;exact absurd c (d _)
 |ok h _=>exact⟨_,rfl⟩
abbrev zk6:ze:=⟨zbT,[[.mk 0 (.cls [(48,57)]) 0,.mk 0 (.name zbT) 63]]⟩
abbrev zjz:ze:=⟨zbU,[[.mk 0 (.lit [97]) 0,.mk 0 (.name zbU) 0,.mk 0 (.lit [98]) 0],[.mk 0 (.lit [99]) 0,.mk 0 (.lit [97]) 63]]⟩
abbrev g3(c:Z5):List ze:=[⟨nmS,[[.mk 0 (.group c) 0]]⟩,zk6,zjz]
end Go.Proofs.YtiganlkabilblaaGreatDoor
