import Derived.Test.YtiganlkabilblaaGreatDoorV39
import Derived.Test.YtiganlkabilblaaGreatDoorV41
import Derived.BigQuiet
import Derived.Test.YtiganlkabilblaaGreatDoorV37
set_option linter.all false
set_option maxHeartbeats 64000000
set_option maxRecDepth 100000
namespace Go.Proofs.YtiganlkabilblaaGreatDoor
open Tryz
open Tryz renaming prog->P
open Option renaming some->S,none->N
open Value renaming int->I
open IntKind renaming i64->J
section
open Go.RowKit
attribute [local go_sem ↓] Go.wp_at_zero Go.wp_at_succ
theorem zlp(t s:ByteArray)(w:World)(W:t.size<=maxLen)(X:s.size<=maxLen)(z:QD w):Calls P 29 #[.string t,.string s] w λe Z=>qF t.data.toList s w e Z:=by
 have B:=zkv t s w W X z;go_enter func29,ntmps29;go_wp2_with fail;refine B.mono ?_;rintro e F⟨n,Y,v,a⟩;have k:=n.size;have i:=z6 n;have b:=z6 v;clear B n v z;cases Y with
 |error x=>obtain⟨K,p⟩:=x;obtain⟨h0,rfl⟩:=a;simp only[J1];go_wp2_with fail;go_ret2;exact⟨i.out.alloc k _,_,_,rfl,.error (K,p),b.out,rfl,rfl⟩
 |ok y=>
  obtain⟨g,E⟩:=y;obtain⟨R,a⟩:=a;by_cases h:200<s.size;·rw[if_pos h]at a;subst a;simp only[J1];go_wp2_with fail;go_ret2;refine⟨i.out.alloc k _,_,_,rfl,.ok (g,E),b.out,?_⟩;simp only[];rw[if_pos h];exact⟨rfl,rfl⟩
  ·rw[if_neg h]at a;obtain⟨o,f,rfl⟩:=a;have U:=b.out.ends.pos;cases o with
   |none=>have G:=z6 f;simp only[J1,Option.isSome_none];clear f;go_wp2_with fail;go_ret2;refine⟨i.out.alloc k _,_,_,rfl,.ok (g,E),b.out,?_⟩;simp only[];rw[if_neg h];exact⟨N,G.out,rfl,rfl⟩
   |some x=>
    obtain⟨j,m⟩:=x;have A:=qj b.out.ends R (show s.data.toList.length<=200 by show s.size<=200;omega) f;simp only[]at A;have D:wfN m:=(f U).wf trivial j m rfl;have l:Hid (∀O,Calls P 57 #[.agg #[I J ((0:Nat):Int),I J ((0:Nat):Int),I J j,ntV m]] (F.alloc O) λu r=>∃c q d,u=.returned (.slice c q d)/\Hid (qF t.data.toList s w (.returned (.tuple #[.slice c q d,I J 0])) r)):=z6 (λO=>(zgO (F.alloc O) 0 0 j m D (by omega)).mono (by rintro u r⟨c,d,rfl,L,M⟩;refine⟨c,_,d,rfl,z6 ⟨(i.out.alloc k _).trans (M.mono (by simp;omega)),_,_,rfl,.ok (g,E),b.out,?_⟩⟩;simp only[];rw[if_neg h];exact⟨S (j,m),f,by simp,c,d,rfl,Zn L (by simp;omega)⟩))
    have V:=QV m;simp only[J1,Option.isSome_some];clear f A D;generalize ntV m=nv at *;simp only[Int.natCast_zero]at l|-;rcases V with rfl|⟨tt,vv,rfl⟩;all_goals go_wp2_with fail;refine(l.out _).mono ?_;rintro _ r⟨c,q,d,rfl,H⟩;clear l;go_wp2_with fail;go_ret2;exact H.out
def Y0(w:World)(B:Nat)(v:Value)(l:List Nod):Prop:=w.ownsRow B 60 4 v l.length (l.flatMap ZZ)
theorem zgN(a:List Nod)(i j:Nat)(b:i<a.length)(e:j<4):(a.flatMap ZZ)[i *4+j]?=(ZZ a[i])[j]?:=by
 induction a generalizing i with
 |nil=>simp at b
 |cons p a d=>
  have c:(ZZ p).length=4:=rfl;cases i with
  |zero=>simp only[List.flatMap_cons,Nat.zero_mul,Nat.zero_add,List.getElem_cons_zero];rw[List.getElem?_append_left (by omega)]|succ i=>simp only[List.flatMap_cons,List.getElem_cons_succ];rw[List.getElem?_append_right (by omega),c,show(i+1) *4+j-4=i *4+j from by omega];exact d i (by simpa using b)
theorem Y0.gen{w:World}{B:Nat}{v:Value}{l:List Nod}(h:Y0 w B v l):∃f q,v=.slice f l.length q/\l.length<=9223372036854775807/\∀i (a:i<l.length),∃b,f=S ⟨b,0,N⟩/\b<w.heap.size/\w.cell? ⟨b,i *4,N⟩=S (I J l[i].1)/\w.cell? ⟨b,i *4+1,N⟩=S (I J l[i].2.1)/\w.cell? ⟨b,i *4+2,N⟩=S (I J l[i].2.2.1)/\w.cell? ⟨b,i *4+3,N⟩=S (I J l[i].2.2.2):=by
 have m:=h;rcases m.2 with⟨rfl,n⟩|⟨d,k,r,rfl,_,p,s,o,_⟩;·exact⟨N,0,by rw[n],by omega,λj e=>by omega⟩
 ·have c:∀i (a:i<l.length) j,j<4->w.cell? ⟨d,i *4+j,N⟩=(ZZ l[i])[j]?:=λi a j e=>by have:=h.cellAt (g:=d) (i *4+j) (by omega);rw[zgN _ _ _ a e]at this;exact this
  exact⟨_,k,rfl,by unfold maxLen at o;omega,λi a=>⟨d,rfl,za p,c i a 0 (by decide),c i a 1 (by decide),c i a 2 (by decide),c i a 3 (by decide)⟩⟩
theorem ziC(w:World)(B h:Nat)(f g:Value)(l:List Nod)(a:Y0 w B f l)(b:Y0 w h g l):Calls P 48 #[f,g] w λe k=>e=.returned (.bool true)/\Below w.heap.size w k:=by
 obtain⟨E,G,rfl,z,c⟩:=a.gen;obtain⟨F,H,rfl,_,hd⟩:=b.gen;clear a b;go_enter func48,ntmps48;go_wp2_with fail;go_loopg[5] l.length (λm v wr=>∃i q:Nat,m=l.length-i/\v=I J i/\i<=l.length/\wr=w.drewN q);case atStart=>exact⟨0,0,by omega,rfl,by omega,rfl⟩
 case round=>
  obtain⟨i,q,rfl,rfl,y,rfl⟩:=hrel;by_cases d:i<l.length
  ·have j:(i:Int)<l.length:=by omega
   obtain⟨K,rfl,A,n,o,p,r⟩:=c i d;obtain⟨L,rfl,D,s,t,u,x⟩:=hd i d;generalize l[i].1=M at *;generalize l[i].2.1=N at *;generalize l[i].2.2.1=O at *;generalize l[i].2.2.2=R at *;clear c hd;go_wp2_with fail;go_quiet(fail);go_wp2_with fail;go_roundg (l.length-(i+1));case measure=>omega
   case rel=>exact⟨i+1,_,rfl,by go_num,by omega,rfl⟩
  ·have j:¬(i:Int)<l.length:=by omega
   go_wp2_with fail;go_ret;exact⟨rfl,below_drewN (Below.refl _ _) _⟩
end
section
open Go.RowKit
theorem JK.impP{P Q:Nat->Prop}{a:Nat}{w:World}{ao:Option Addr}{b n cap:Nat}{olds:List Value}(h:JK P a w ao b n cap olds)(d:∀x,P x->Q x):JK Q a w ao b n cap olds:=⟨h.came,λc=>d _ (h.pb c),h.max,h.fz⟩
def zL(m:Nat):List Value:=[I J (-7070),I J m,I J 0,I J 0]
abbrev zO(m:Nat):Obj:=.cells #[I J (-7070),I J m,I J 0,I J 0] 60 (0,0)
section
variable {w0 : World} {P : Nat → Prop} {zb m : Nat} {ao : Option Addr} {b n cap : Nat} {olds : List Value}
theorem GrW.look{w a:World}{b cap:Nat}{O:Option Obj}{k:Nat}(h:GrW w a (λx=>x=b/\0<cap))(d:k<w.heap.size)(c:¬(k=b/\0<cap))(e:w.heap[k]?=O):a.heap[k]?=O:=(h.block k d c).trans e
end
section
variable {w0 : World} {P : Nat → Prop} {zb m nb n : Nat} {A : Nat → Option Addr} {C : Nat → Nat}
theorem GrW.drew{w c:World}{a:Nat->Prop}(h:GrW w c a):GrW w c.drew a:=⟨h.os,h.tape,h.output,h.size,h.block⟩
end
end
end Go.Proofs.YtiganlkabilblaaGreatDoor
