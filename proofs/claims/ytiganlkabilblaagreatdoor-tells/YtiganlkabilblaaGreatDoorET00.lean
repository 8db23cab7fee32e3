import Derived.Test.YtiganlkabilblaaGreatDoorV00
import Derived.Test.YtiganlkabilblaaGreatDoorV01
import Derived.Test.YtiganlkabilblaaGreatDoorV02
import Derived.Test.YtiganlkabilblaaGreatDoorV03
import Derived.Test.YtiganlkabilblaaGreatDoorV04
import Derived.Test.YtiganlkabilblaaGreatDoorV05
import Derived.Test.YtiganlkabilblaaGreatDoorV06
import Derived.Test.YtiganlkabilblaaGreatDoorV07
import Derived.Test.YtiganlkabilblaaGreatDoorV08
import Derived.Test.YtiganlkabilblaaGreatDoorV09
import Derived.Test.YtiganlkabilblaaGreatDoorV10
import Derived.Test.YtiganlkabilblaaGreatDoorV11
import Derived.Test.YtiganlkabilblaaGreatDoorV12
import Derived.Test.YtiganlkabilblaaGreatDoorV13
import Derived.Test.YtiganlkabilblaaGreatDoorV14
import Derived.Test.YtiganlkabilblaaGreatDoorV15
import Derived.Test.YtiganlkabilblaaGreatDoorV16
import Derived.Test.YtiganlkabilblaaGreatDoorV17
import Derived.Test.YtiganlkabilblaaGreatDoorV29
import Derived.Test.YtiganlkabilblaaGreatDoorV35
import Derived.Test.YtiganlkabilblaaGreatDoorV36
import Derived.Test.YtiganlkabilblaaGreatDoorV37
import Derived.Test.YtiganlkabilblaaGreatDoorV38
import Derived.Test.YtiganlkabilblaaGreatDoorV40
import Derived.Test.YtiganlkabilblaaGreatDoorV44
import Derived.Test.YtiganlkabilblaaGreatDoorV45
import Derived.Test.YtiganlkabilblaaGreatDoorV46
set_option linter.all false
set_option maxHeartbeats 64000000
set_option maxRecDepth 100000
open Go.Proofs.Tryz
open Go.Proofs.Tryz renaming prog->P
namespace Go.Proofs.YtiganlkabilblaaGreatDoor
open Tryz
open Option renaming some->S,none->N
open Value renaming int->I
open IntKind renaming i64->J
section
open Go.RowKit
attribute [local go_sem ↓] Go.wp_at_zero Go.wp_at_succ
def EvU(w b:World):Prop:=∀a:Addr,(w.cell? a).isSome=true->(b.cell? a).isSome=true/\b.frozen? a=w.frozen? a
theorem EvU.refl(w:World):EvU w w:=λ_ h=>⟨h,rfl⟩
theorem EvU.trans{a b c:World}(h:EvU a b)(k:EvU b c):EvU a c:=λx d=>⟨(k x (h x d).1).1,((k x (h x d).1).2).trans (h x d).2⟩
theorem EvU.alloc(w:World)(o:Obj):EvU w (w.alloc o):=λa b=>by obtain⟨u,d⟩:=Option.isSome_iff_exists.1 b;have c:=World.block_lt_of_cell? w a d;exact⟨by rw[World.cell?_alloc_lt _ _ _ c];exact b,World.frozen?_alloc_old _ _ _ (by omega)⟩
theorem EvU.setCells(b:Nat):∀(c:List Value) (o:Nat) (w:World),(∀j,j<c.length->(w.cell? ⟨b,o+j,N⟩).isSome=true)->EvU w (w.setCells b o c):=by
 intro c o w l a k;refine⟨?_,World.frozen?_setCells b c o w a⟩;by_cases h:a.block=b/\a.spot=N/\o<=a.off/\a.off<o+c.length
 ·obtain⟨m,n,d,f⟩:=h;obtain⟨j,p⟩:∃j,a.off=o+j:=⟨a.off-o,by omega⟩;have e:a=⟨b,o+j,N⟩:=by cases a;simp_all
  rw[e,World.cell?_setCells_in b c o w l j (by omega)];rfl
 ·rw[World.cell?_setCells_out b c o w a (λg i=>by
   by_cases d:a.off<o;·exact .inl d
   ·exact .inr (by
     by_cases f:a.off<o+c.length;·exact absurd ⟨g,i,by omega,f⟩ h
     ·omega))]
  exact k
def zqM(w:World)(B:Nat)(d:Nat->Prop)(v:Value)(n:Nat):Prop:=∃c b a e,v=.slice c n e/\(0<n->c=S ⟨b,a,N⟩/\B<=b/\b<w.heap.size/\¬d b)/\n<=maxLen/\∀j,j<n *2->(w.cell? ⟨b,a+j,N⟩).isSome=true/\w.frozen? ⟨b,a+j,N⟩=false
theorem zqM.ev{w d:World}{B:Nat}{e:Nat->Prop}{v:Value}{n:Nat}(h:zqM w B e v n)(r:EvU w d)(y:w.heap.size<=d.heap.size):zqM d B e v n:=by
 obtain⟨g,b,u,l,m,o,p,q⟩:=h;refine⟨g,b,u,l,m,λt=> ?_,p,λj s=> ?_⟩;·obtain⟨a,c,x,f⟩:=o t;exact⟨a,c,by omega,f⟩
 ·obtain⟨a,c⟩:=q j s;obtain⟨i,k⟩:=r _ a;exact⟨i,k.trans c⟩
structure Lst(w:World)(B:Nat)(Bad:Nat->Prop)(ao:Option Addr)(b off n cap:Nat)(olds:List Value):Prop where
 came:Came w 2 ao b off n cap olds
 ge:0<cap->B<=b/\¬Bad b
 max:cap<=maxLen
 fz:∀j,j<n *2->w.frozen? ⟨b,off+j,none⟩=false
theorem Lst.room{w:World}{B:Nat}{d:Nat->Prop}{a:Option Addr}{b e n c:Nat}{f:List Value}(h:Lst w B d a b e n c f):zqM w B d (.slice a n c) n:=by
 have k:=h.came.le;refine⟨a,b,e,c,rfl,λl=> ?_,by have:=h.max;omega,λj g=>⟨?_,h.fz j g⟩⟩;·have:=h.ge (by omega);exact⟨h.came.addr (by omega),this.1,h.came.lt (by omega),this.2⟩
 ·have m:=h.came.oldsLen;obtain⟨u,i⟩:∃u,f[j]?=S u:=⟨_,List.getElem?_eq_getElem (by omega)⟩;rw[h.came.olds j u i];rfl
structure Gr(w w':World)(row:Nat->Prop):Prop where
 os:w'.os=w.os
 tape:w'.tape=w.tape
 output:w'.output=w.output
 size:w.heap.size<=w'.heap.size
 block:∀k,k<w.heap.size->¬row k->w'.heap[k]?=w.heap[k]?
theorem Lst.ev{w g:World}{B:Nat}{i:Nat->Prop}{k:Option Addr}{b e n l:Nat}{f:List Value}(h:Lst w B i k b e n l f)(m:EvU w g)(p:w.heap.size<=g.heap.size)(o:∀j u,f[j]?=S u->g.cell? ⟨b,e+j,N⟩=S u):Lst g B i k b e n l f:=by
 have a:=h.came;refine⟨⟨a.le,a.addr,λh=>Nat.lt_of_lt_of_le (a.lt h) p,a.oldsLen,o,λj d=> ?_⟩,h.ge,h.max,λj d=> ?_⟩;·have:=a.spare j d;have c:=m _ this.1;exact⟨c.1,c.2.trans this.2⟩
 ·obtain⟨u,q⟩:∃u,f[j]?=S u:=⟨_,List.getElem?_eq_getElem (by rw[a.oldsLen];exact d)⟩;have c:=m ⟨b,e+j,N⟩ (by rw[a.olds j u q];rfl);exact c.2.trans (h.fz j d)
theorem zr1{w:World}{B:Nat}{z:Nat->Prop}{q:Option Addr}{b d n c:Nat}{o:List Value}(L:TypeId)(h:Lst w B z q b d n c o)(G:Value)(k:Nat)(m:List Value)(E:Src prog 2 92 G k m w)(hk:0<k)(hb:n+k<=100000)(X:B<=w.heap.size)(Y:∀x,z x->x<w.heap.size):∃M O y,(Builtin.append_ #[92,92] L #[.slice q n c,G]).run prog w=.ok (.slice M (n+k) O) y/\zqM y B z (.slice M (n+k) O) (n+k)/\EvU w y/\Lst y B z q b d n c o/\Gr w y (λx=>x=b/\0<c):=by
 obtain⟨g,T,a6,v,a7⟩:=info_parts infoARule;have f:=h.came;have aa:=f.le;have a3:=E.newsLen;rw[<-v]at E;by_cases a2:n+k<=c
 ·have r:0<c:=by omega
  have I:=f.addr r;subst I;have F:∀j,j<m.length->(w.cell? ⟨b,d+n *g.size+j,N⟩).isSome=true/\w.frozen? ⟨b,d+n *g.size+j,N⟩=false:=by intro j i;rw[v];exact f.spare j (by omega)
  have D:=run_append_room_src (P:=prog) w 92 92 L 151 g underlying92 T b d n c G k m E a2 (λj i=>(F j i).1) (λj i=>(F j i).2);obtain⟨ht,K⟩:=zar b m (d+n *g.size) w;have p:=EvU.setCells b m (d+n *g.size) w (λj i=>(F j i).1);have J:=h.ge r;have a5:∀j u,o[j]?=S u->(w.setCells b (d+n *g.size) m).cell? ⟨b,d+j,N⟩=S u:=by
   intro j u l;have i:j<n *2:=by have:=(List.getElem?_eq_some_iff.1 l).1;rw[f.oldsLen]at this;exact this
   rw[World.cell?_setCells_out b _ _ _ _ (λ_ _=>Or.inl (by show d+j<_;rw[v];omega))];exact f.olds j u l
  refine⟨_,_,_,D,⟨_,b,d,c,rfl,λ_=>⟨rfl,J.1,by rw[K];exact f.lt r,J.2⟩,by unfold maxLen;omega,λj i=> ?_⟩,p,h.ev p (by rw[K];exact Nat.le_refl _) a5,⟨World.os_setCells _ _ _ _,ht,World.output_setCells _ _ _ _,by rw[K];exact Nat.le_refl _,λx t hr=>World.heap_setCells_other _ _ _ _ t (λe=>hr ⟨e,r⟩)⟩⟩;by_cases U:j<n *2;·obtain⟨u,l⟩:∃u,o[j]?=S u:=⟨_,List.getElem?_eq_getElem (by rw[f.oldsLen];exact U)⟩;have A:=f.olds j u l;have s:=p ⟨b,d+j,N⟩ (by rw[A];rfl);exact⟨s.1,s.2.trans (h.fz j U)⟩
  ·have:=F (j-n *2) (by omega);rw[v,show d+n *2+(j-n *2)=d+j from by omega]at this;have s:=p _ this.1;exact⟨s.1,s.2.trans this.2⟩
 ·have R:c<n+k:=by omega
  have V:=f.oldsLen;have a4:(Builtin.firstCells g.size n (.slice q n c)).run prog w.drew=.ok o.toArray w.drew:=by
   rcases Nat.eq_zero_or_pos c with h0|r
   ·have W:n=0:=by omega
    subst W;have H:o=[]:=List.length_eq_zero_iff.1 (by omega);subst H;cases q with
    |none=>exact run_firstCells_none w.drew g.size 0 0 c|some a=>exact run_firstCells_some w.drew g.size 0 a 0 c [] (by simp) (by simp)
   ·have I:=f.addr r;subst I;refine run_firstCells_some w.drew g.size n ⟨b,d,N⟩ _ _ _ (by rw[v];exact V) ?_;intro j u l;rw[Addr.add_lit];exact f.olds j u l
  have a0:(n+k) *g.bytes<=140737488355328:=by rw[a7];omega
  have D:=run_append_grow_src (P:=prog) w 92 92 L 151 g _ underlying92 T a6 q n c o a4 G k m E R (by omega) (growslice_fits R a0);have J:=grownCap_ge w (n+k) c 151;have a9:=grownCap_le_maxLen w (n+k) c 151 (by unfold maxLen;omega);have a1:EvU w w.drew:=λa Z=>⟨Z,rfl⟩;obtain⟨C,Q⟩:∃C,C=((o++m).toArray++Builtin.zeroCells (Value.agg #[.string ⟨#[]⟩,.bool false]).cells (grownCap w (n+k) c 151-(n+k))):=⟨_,rfl⟩;have a8:(n+k) *2<=C.size:=by rw[Q,Array.size_append,List.size_toArray,List.length_append,V,a3];omega
  rw[<-Q]at D;have p:EvU w (w.drew.alloc (.cells C 151)):=a1.trans (EvU.alloc _ _);refine⟨_,_,_,D,⟨_,w.heap.size,0,_,rfl,λ_=>⟨rfl,X,by simp,λt=>Nat.lt_irrefl _ (Y _ t)⟩,by unfold maxLen;omega,λj i=>⟨?_,World.frozen?_alloc_new w.drew _ _ _⟩⟩,p,h.ev p (by simp) (λj u l=> ?_),⟨rfl,rfl,rfl,by simp,λx t _=>Below.heap_alloc w.drew _ x t⟩⟩;·have H:(w.drew.alloc (.cells C 151)).cell? ⟨w.heap.size,0+j,N⟩=_:=World.cell?_alloc_new w.drew _ _ (0+j);rw[H,Array.getElem?_eq_getElem (by omega)];rfl
  ·have A:=f.olds j u l;rw[World.cell?_alloc_lt _ _ _ (World.block_lt_of_cell? w.drew _ A)];exact A
theorem zqZ(w:World):Calls P 74 #[I J 0] w λe c=>e=.returned (.string ⟨#[40,109,105,110,101,32,48]⟩)/\c=w:=by
 go_enter func74,ntmps74;go_wp2_with fail;go_loopg[0,3] 1 (λm a b wr=>m=1/\a=I J 0/\b=.string ⟨#[40,109,105,110,101,32]⟩/\wr=w);case atStart=>exact⟨rfl,rfl,rfl,rfl⟩
 case round=>obtain⟨rfl,rfl,rfl,rfl⟩:=hrel;go_wp2_with fail;go_ret;exact⟨rfl,rfl⟩
theorem zr4{w:World}{r:Array Oper}{o:Oper}{a:Act}{K:Act->World->Prop}{Q:Exit->Act->World->Prop}{E:Prop}(F:o.guard=N)(s x:Operand)(I:o.op=.call {callee:=.builtin .append,args:=#[s,x],argTypes:=#[92,92]}){B:Nat}{e:Nat->Prop}{l:Option Addr}{b m n g:Nat}{q:List Value}(h:Lst w B e l b m n g q)(M:a.eval s=.slice l n g)(p k c:Nat)(j:Array Value)(t:TypeId)(v:Nat×Nat)(R:a.eval x=.slice (S ⟨p,0,N⟩) k c)(J:w.heap[p]?=S (.cells j t v))(H:j.toList.length=k *2)(y:∀u∈j.toList,u.oneCell'=true)(G:0<k)(D:n+k<=100000)(z:B<=w.heap.size)(A:∀x,e x->x<w.heap.size)(C:∀f i d,zqM d B e (.slice f (n+k) i) (n+k)->EvU w d->Lst d B e l b m n g q->Gr w d (λx=>x=b/\0<g)->K (a.put o.dst (.slice f (n+k) i)) d):if Region.wanted o (yielded r a.tmps)=true then Oper.wp P o a w K Q else E:=by
 have O:Region.wanted o (yielded r a.tmps)=true:=by simp[Region.wanted,F]
 rw[if_pos O];obtain⟨f,i,d,L,T,U,V,W⟩:=zr1 o.type h (.slice (S ⟨p,0,N⟩) k c) k j.toList (Src.ofSlice w underlying92 ⟨p,0,N⟩ k c _ H (World.news_of_block J) y) G D z A;unfold Oper.wp;simp[execOp,I,resolve,invoke,builtin,M,R,L,Result.andThen];exact C f i d T U V W
abbrev zqQ:Obj:=.cells #[.slice N 0 0,.slice N 0 0,.slice N 0 0] 36 (0,0)
structure RS(w0:World)(B yb zb:Nat)(ao:Option Addr)(b off n cap:Nat)(olds:List Value)(w:World):Prop where
 lst:Lst w B (λx=>x=yb\/x=zb) ao b off n cap olds
 hB:B<=w.heap.size
 y:yb<w.heap.size
 z:zb<w.heap.size
 below:Below B w0 w
 yk:w.heap[yb]?=some zqQ
 zf:w.heap[zb]?=some (.cells #[.string ⟨#[40,109,105,110,101,32,48]⟩,.bool false] 151 (0,0))
theorem RS.alloc{g:World}{B i k:Nat}{a:Option Addr}{b e n c:Nat}{f:List Value}{w:World}(h:RS g B i k a b e n c f w)(o:Obj):RS g B i k a b e n c f (w.alloc o):=⟨h.lst.ev (EvU.alloc _ _) (by simp) (λj u l=>by have d:=h.lst.came.olds j u l;rw[World.cell?_alloc_lt _ _ _ (World.block_lt_of_cell? w _ d)];exact d),by have:=h.hB;simp;omega,by have:=h.y;simp;omega,by have:=h.z;simp;omega,h.below.alloc h.hB o,by rw[zm _ _ h.y];exact h.yk,by rw[zm _ _ h.z];exact h.zf⟩
theorem zqY{g:World}{B i a:Nat}{c:Option Addr}{b e n d:Nat}{f:List Value}{w:World}{u0 u1:Value}(h:w.cell? ⟨a,0,N⟩=S u0/\w.cell? ⟨a,1,N⟩=S u1/\RS g B i a c b e n d f w)(o:Obj):(w.alloc o).cell? ⟨a,0,N⟩=S u0/\(w.alloc o).cell? ⟨a,1,N⟩=S u1/\RS g B i a c b e n d f (w.alloc o):=⟨by rw[World.cell?_alloc_lt _ _ _ (World.block_lt_of_cell? w _ h.1)];exact h.1,by rw[World.cell?_alloc_lt _ _ _ (World.block_lt_of_cell? w _ h.2.1)];exact h.2.1,h.2.2.alloc o⟩
theorem zr2{w:World}{U:Array Oper}{o:Oper}{l:Act}{K:Act->World->Prop}{Q:Exit->Act->World->Prop}{E:Prop}(J:o.guard=N)(s x:Operand)(O:o.op=.call {callee:=.builtin .append,args:=#[s,x],argTypes:=#[92,92]}){F:World}{B v d:Nat}{y:Option Addr}{b C n j:Nat}{D:List Value}{u0 u1:Value}(h:w.cell? ⟨d,0,N⟩=S u0/\w.cell? ⟨d,1,N⟩=S u1/\RS F B v d y b C n j D w)(T:l.eval s=.slice y n j)(p k c:Nat)(u:Array Value)(t:TypeId)(A:Nat×Nat)(m:l.eval x=.slice (S ⟨p,0,N⟩) k c)(R:w.heap[p]?=S (.cells u t A))(M:u.toList.length=k *2)(G:u.toList.all (·.oneCell')=true)(L:0<k)(I:n+k<=100000)(H:∀q r i,zqM i B (λx=>x=v\/x=d) (.slice q (n+k) r) (n+k)->EvU w i->(i.cell? ⟨d,0,N⟩=S u0/\i.cell? ⟨d,1,N⟩=S u1/\RS F B v d y b C n j D i)->Gr w i (λx=>x=b/\0<j)->K (l.put o.dst (.slice q (n+k) r)) i):if Region.wanted o (yielded U l.tmps)=true then Oper.wp P o l w K Q else E:=by
 refine zr4 J s x O h.2.2.lst T p k c u t A m R M (List.all_eq_true.1 G) L I h.2.2.hB (λx m=> ?_) (λq r i V W X f=>H q r i V W ⟨?_,?_,X,?_,?_,?_,?_,?_,?_⟩ f)
 ·rcases m with rfl|rfl;·exact h.2.2.y
  ·exact h.2.2.z
 ·have z:¬(d=b/\0<j):=λ⟨e,g⟩=>(h.2.2.lst.ge g).2 (.inr e.symm);rw[World.cell?_of_block (a:=⟨d,0,N⟩) (f.block d h.2.2.z z)];exact h.1
 ·have z:¬(d=b/\0<j):=λ⟨e,g⟩=>(h.2.2.lst.ge g).2 (.inr e.symm);rw[World.cell?_of_block (a:=⟨d,1,N⟩) (f.block d h.2.2.z z)];exact h.2.1
 ·have:=f.size;have:=h.2.2.hB;omega
 ·have:=f.size;have:=h.2.2.y;omega
 ·have:=f.size;have:=h.2.2.z;omega
 ·refine⟨f.os.trans h.2.2.below.os,f.tape.trans h.2.2.below.tape,f.output.trans h.2.2.below.output,Nat.le_trans h.2.2.below.size f.size,λx m=> ?_⟩;rw[f.block x (by have:=h.2.2.hB;omega) (λ⟨e,g⟩=>by have:=(h.2.2.lst.ge g).1;omega)];exact h.2.2.below.block x m
 ·rw[f.block v h.2.2.y (λ⟨e,g⟩=>(h.2.2.lst.ge g).2 (.inl e.symm))];exact h.2.2.yk
 ·rw[f.block d h.2.2.z (λ⟨e,g⟩=>(h.2.2.lst.ge g).2 (.inr e.symm))];exact h.2.2.zf
theorem Gr.look{w c:World}{b a:Nat}{O:Option Obj}{k:Nat}(h:Gr w c (λx=>x=b/\0<a))(e:k<w.heap.size)(d:¬(k=b/\0<a))(f:w.heap[k]?=O):c.heap[k]?=O:=(h.block k e d).trans f
def zqT:Nat->Array Value
 |1=>#[.string ⟨#[40,109,105,110,101,32,48]⟩,.bool false]
 |2=>#[.string ⟨#[40,109,105,110,101,32,48]⟩,.bool false,.string ⟨#[40,109,105,110,101,32,48]⟩,.bool false]
 |_=>#[.string ⟨#[40,109,105,110,101,32,48]⟩,.bool false,.string ⟨#[40,109,105,110,101,32,48]⟩,.bool false,.string ⟨#[40,109,105,110,101,32,48]⟩,.bool false]
theorem zr3{w:World}{D:Array Oper}{o:Oper}{a:Act}{K:Act->World->Prop}{Q:Exit->Act->World->Prop}{E:Prop}(v:o.guard=N)(s x:Operand)(y:o.op=.call {callee:=.builtin .append,args:=#[s,x],argTypes:=#[92,92]}){t:World}{B i e:Nat}{g:Option Addr}{b q n f:Nat}{r:List Value}{u0 u1:Value}(h:w.cell? ⟨e,0,N⟩=S u0/\w.cell? ⟨e,1,N⟩=S u1/\RS t B i e g b q n f r w)(A:a.eval s=.slice g n f)(p k c:Nat)(C:a.eval x=.slice (S ⟨p,0,N⟩) k c)(m:k=1\/k=2\/k=3)(z:w.heap[p]?=S (.cells (zqT k) 151 (0,0)))(F:n<=20)(u:∀j l d,zqM d B (λx=>x=i\/x=e) (.slice j (n+k) l) (n+k)->EvU w d->(d.cell? ⟨e,0,N⟩=S u0/\d.cell? ⟨e,1,N⟩=S u1/\RS t B i e g b q n f r d)->Gr w d (λx=>x=b/\0<f)->K (a.put o.dst (.slice j (n+k) l)) d):if Region.wanted o (yielded D a.tmps)=true then Oper.wp P o a w K Q else E:=by
 refine zr2 v s x y h A p k c (zqT k) 151 (0,0) C z ?_ ?_ (by omega) (by omega) u;·rcases m with rfl|rfl|rfl<;>rfl
 ·rcases m with rfl|rfl|rfl<;>rfl
theorem zqR(w:World):w.drew.heap=w.heap:=rfl
structure zqP(w0:World)(B yb zb nb n:Nat)(A:Nat->Option Addr)(C:Nat->Nat)(w:World):Prop where
 below:Below B w0 w
 yk:w.heap[yb]?=some zqQ
 zf:w.heap[zb]?=some (.cells #[.string ⟨#[40,109,105,110,101,32,48]⟩,.bool false] 151 (0,0))
 nk:w.heap[nb]?=some (.cells #[.slice (A 0) (n+0) (C 0),.slice (A 1) (n+1) (C 1),.slice (A 2) (n+2) (C 2),.slice (A 3) (n+3) (C 3)] 92 (0,0))
 hB:B<=nb
 rooms:∀k,k<4->zqM w B (λx=>x=yb\/x=zb\/x=nb) (.slice (A k) (n+k) (C k)) (n+k)
theorem zqM.evAlloc{w:World}{B:Nat}{a:Nat->Prop}{v:Value}{n:Nat}{o:Obj}(h:zqM w B a v n):zqM (w.alloc o) B a v n:=h.ev (EvU.alloc _ _) (by simp)
theorem zqM.evGr{w a:World}{B:Nat}{b:Nat->Prop}{v:Value}{n:Nat}{e:Nat->Prop}(c:EvU w a)(d:Gr w a e)(h:zqM w B b v n):zqM a B b v n:=h.ev c d.size
theorem zqM.drew{w:World}{B:Nat}{b:Nat->Prop}{v:Value}{n:Nat}(h:zqM w B b v n):zqM w.drew B b v n:=h.ev (λa c=>⟨c,rfl⟩) (Nat.le_refl _)
theorem zqM.fresh{w:World}{B e f:Nat}{v:Value}{n:Nat}(c:Obj)(h:zqM w B (λx=>x=e\/x=f) v n):zqM (w.alloc c) B (λx=>x=e\/x=f\/x=w.heap.size) v n:=by
 obtain⟨D,b,J,l,m,G,p,H⟩:=h.evAlloc (o:=c);obtain⟨E,k,A,F,t,y,I,z⟩:=h;subst m;cases t;refine⟨_,k,A,l,rfl,λr=> ?_,p,λj q=> ?_⟩
 ·obtain⟨g,i,C,d⟩:=y r;exact⟨g,i,by simp;omega,λa=>by
   rcases a with a|a|a;·exact d (.inl a)
   ·exact d (.inr a)
   ·omega⟩
 ·obtain⟨u,s⟩:=z j q;have:=EvU.alloc w c _ u;exact⟨this.1,this.2.trans s⟩
theorem zqP.store{s w:World}{B d f c n:Nat}{A:Nat->Option Addr}{C:Nat->Nat}(h:zqP s B d f c n A C w){x o:Nat}(r:B<=x)(g:¬(x=d\/x=f\/x=c))(u0 u1:Value):zqP s B d f c n A C ((w.setCell ⟨x,o,N⟩ u0).setCell ⟨x,o+1,N⟩ u1):=by
 have m:∀(w:World) (j:Addr) (u:Value),EvU w (w.setCell j u):=by
  intro w j u a l;refine⟨?_,World.frozen?_setCell _ _ _ _⟩;by_cases q:j=a;·subst q;rw[World.cell?_setCell_same' _ _ _ l];rfl
  ·rw[World.cell?_setCell_other _ _ _ _ q];exact l
 have t:=(m w ⟨x,o,N⟩ u0).trans (m (w.setCell ⟨x,o,N⟩ u0) ⟨x,o+1,N⟩ u1);have i:∀k,k≠x->((w.setCell ⟨x,o,N⟩ u0).setCell ⟨x,o+1,N⟩ u1).heap[k]?=w.heap[k]?:=by intro k b;rw[Below.heap_setCell _ _ _ _ b,Below.heap_setCell _ _ _ _ b]
 refine⟨(h.below.setCell (p:=⟨x,o,N⟩) r u0).setCell (p:=⟨x,o+1,N⟩) r u1,?_,?_,?_,h.hB,λk b=>(h.rooms k b).ev t (by simp)⟩;·rw[i d (λe=>g (.inl e.symm))];exact h.yk
 ·rw[i f (λe=>g (.inr (.inl e.symm)))];exact h.zf
 ·rw[i c (λe=>g (.inr (.inr e.symm)))];exact h.nk
theorem zqP.drewN1{b w:World}{B c d a n:Nat}{A:Nat->Option Addr}{C:Nat->Nat}(h:zqP b B c d a n A C w):zqP b B c d a n A C w.drew:=⟨h.below.drew,h.yk,h.zf,h.nk,h.hB,λk e=>(h.rooms k e).drew⟩
theorem zqX{p w:World}{B c a:Nat}{g:Option Addr}{b r n m:Nat}{s:List Value}{u0 u1:Value}(h:w.cell? ⟨a,0,N⟩=S u0/\w.cell? ⟨a,1,N⟩=S u1/\RS p B c a g b r n m s w){d e f:Option Addr}{i j l:Nat}(t:zqM w B (λx=>x=c\/x=a) (.slice d (n+1) i) (n+1))(u:zqM w B (λx=>x=c\/x=a) (.slice e (n+2) j) (n+2))(v:zqM w B (λx=>x=c\/x=a) (.slice f (n+3) l) (n+3)):∃(o:Nat) (A:Nat->Option Addr) (C:Nat->Nat),Value.slice (S ⟨w.heap.size,0,N⟩) 4 4=.slice (S ⟨o,0,N⟩) 4 4/\zqP p B c a o n A C (w.alloc (.cells #[.slice g n m,.slice d (n+1) i,.slice e (n+2) j,.slice f (n+3) l] 92)):=by
 refine⟨w.heap.size,λk=>if k=0 then g else if k=1 then d else if k=2 then e else f,λk=>if k=0 then m else if k=1 then i else if k=2 then j else l,rfl,(h.2.2.alloc _).below,(h.2.2.alloc _).yk,(h.2.2.alloc _).zf,zk _ _,h.2.2.hB,λk y=> ?_⟩;have q:k=0\/k=1\/k=2\/k=3:=by omega
 rcases q with rfl|rfl|rfl|rfl;·exact h.2.2.lst.room.fresh _
 ·exact t.fresh _
 ·exact u.fresh _
 ·exact v.fresh _
theorem zqV(w:World)(a B:Nat)(H:Option Addr)(b U n G:Nat)(V:List Value)(T:w.heap[a]?=S (.cells #[.slice N 0 0,.slice N 0 0,.slice N 0 0] 36 (0,0)))(hL:Lst w B (λW=>W=a) H b U n G V)(aq:B<=a)(hn:n<=20):Calls P 45 #[.pointer (S ⟨a,1,N⟩),.slice H n G] w λe g=>e=.returned (.tuple #[])/\Below B w g:=by
 have a9:=zqZ w;have q:=z8 T;have ar:=za T;have l:=z6 hL;have HY:=z6 T;clear hL T;go_enter func45,ntmps45;go_wp2_with fail;refine a9.mono ?_;rintro _ w1⟨rfl,a6⟩;replace a6:=a6.symm;subst a6;clear a9;obtain⟨X,r⟩:∃X,X=w.alloc (.cells #[.string ⟨#[40,109,105,110,101,32,48]⟩,.bool false] 151):=⟨_,rfl⟩;have s:X.heap.size=w.heap.size+1:=by rw[r];simp
 have Q:X.heap[w.heap.size]?=S (.cells #[.string ⟨#[40,109,105,110,101,32,48]⟩,.bool false] 151 (0,0)):=by rw[r];exact zk _ _
 have ag:X.drew.cell? ⟨w.heap.size,0,N⟩=S (.string ⟨#[40,109,105,110,101,32,48]⟩)/\X.drew.cell? ⟨w.heap.size,1,N⟩=S (.bool false)/\RS w B a w.heap.size H b U n G V X.drew:=by
  refine⟨z8 Q 0,z8 Q 1,?_,?_,?_,?_,?_,?_,Q⟩
  ·have h1:Lst w B (λW=>W=a\/W=w.heap.size) H b U n G V:=⟨l.out.came,λL=>⟨(l.out.ge L).1,λR=>by
    rcases R with R|R;·exact(l.out.ge L).2 R
    ·have:=l.out.came.lt L;omega⟩,l.out.max,l.out.fz⟩
   have ah:EvU w X.drew:=by rw[r];exact EvU.alloc w _
   refine h1.ev ah (by show _<=X.heap.size;omega) (λj u hu=> ?_);have K:=l.out.came.olds j u hu;rw[r];show(w.alloc _).cell? _=_;rw[World.cell?_alloc_lt _ _ _ (World.block_lt_of_cell? w _ K)];exact K
  ·show _<=X.heap.size;omega
  ·show _<X.heap.size;omega
  ·show _<X.heap.size;omega
  ·rw[r];exact(((Below.refl B w).alloc (by omega) _)).drew
  ·show X.heap[a]?=_;rw[r,zm _ _ ar];exact HY.out
 have a8:0<G->b<w.heap.size:=l.out.came.lt;have a7:=z6 a8;clear a8 Q;go_wp2_with fail;rw[<-r];have HX:=z6 r;clear r;go_cut [5]from 15 to 63 (λv5 wx=>∃(f:Nat) (A:Nat->Option Addr) (C:Nat->Nat),v5=.slice (S ⟨f,0,N⟩) 4 4/\zqP w B a w.heap.size f n A C wx);case first=>
  go_region_held_law (λg=>g.cell? ⟨w.heap.size,0,N⟩=S (.string ⟨#[40,109,105,110,101,32,48]⟩)/\g.cell? ⟨w.heap.size,1,N⟩=S (.bool false)/\RS w B a w.heap.size H b U n G V g) (first|assumption|exact zqY (by assumption) _)
   ((refine zr3 (by rfl) _ _ (by rfl) (by assumption) (by rfl) _ _ _ (by rfl) (by decide) (by
    (try rw[zqR]);repeat' (first
     |(refine Ji _ _ _ ?_;simp[s];done)|(refine Ji _ _ _ ?_;simp;done)|(refine(zm _ _ ?_).trans ?_;·first|omega|(simp[s];done)|(simp[s];omega)|(simp;omega))
     |(
      refine Gr.look (by assumption) ?_ ?_ ?_;·first|omega|(rw[zqR];simp[s];done)|(rw[zqR];simp[s];omega)|(simp;done)|(simp[s];done)|(simp;omega)|(simp[s];omega)
      ·intro h;obtain⟨e,L⟩:=h;have:=a7.out L;omega
      (try rw[zqR])))) hn ?_;intro ae af g O c hS d;have hz:=d.size;(try rw[zqR]at hz);(try simp[s]at hz);(first|replace z:=zqM.evGr c d z|replace z:=zqM.evGr c d z.evAlloc|replace z:=zqM.evGr c d z.evAlloc.evAlloc|skip);(first|replace D:=zqM.evGr c d D|replace D:=zqM.evGr c d D.evAlloc|replace D:=zqM.evGr c d D.evAlloc.evAlloc|skip);(first|replace E:=zqM.evGr c d E|replace E:=zqM.evGr c d E.evAlloc|replace E:=zqM.evGr c d E.evAlloc.evAlloc|skip);(first|(have z:zqM _ _ _ _ (n+1):=O)|(have D:zqM _ _ _ _ (n+2):=O)|(have E:zqM _ _ _ _ (n+3):=O));clear O c))
  all_goals(try go_wp2_with fail)
  all_goals go_meet
  all_goals exact zqX hS z D E
 case rest=>
  obtain⟨f,A,C,rfl,hF⟩:=hcut;have Y:=z6 hF;clear hF ag a7 HX l HY q;go_wp2_with fail;go_loopg[6] 4 (λm v wr=>∃k:Nat,m=4-k/\v=I J k/\k<=4/\Hid (zqP w B a w.heap.size f n A C wr));case atStart=>exact⟨0,by omega,rfl,by omega,Y⟩
  case round=>
   obtain⟨k,rfl,rfl,hk,t⟩:=hrel;have a5:=z8 t.out.nk;have ay:=za t.out.nk;by_cases aj:k<4
   ·have ak:(k:Int)<4:=by omega
    have an:wr.cell? ⟨f,k,N⟩=S (.slice (A k) (n+k) (C k)):=by
     rw[a5];have a0:k=0\/k=1\/k=2\/k=3:=by omega
     rcases a0 with rfl|rfl|rfl|rfl<;>rfl
    clear Y a5;go_wp2_with fail;go_loopg[7] (n+k) (λm v wr=>∃i:Nat,m=n+k-i/\v=I J i/\i<=n+k/\Hid (zqP w B a w.heap.size f n A C wr));case atStart=>exact⟨0,by omega,rfl,by omega,t⟩
    case round=>
     obtain⟨i,rfl,rfl,hi,y⟩:=hrel;have aa:=z8 y.out.nk;have az:=za y.out.nk;have ap:wr.cell? ⟨f,k,N⟩=S (.slice (A k) (n+k) (C k)):=by
      rw[aa];have a0:k=0\/k=1\/k=2\/k=3:=by omega
      rcases a0 with rfl|rfl|rfl|rfl<;>rfl
     clear aa;by_cases au:i<n+k
     ·have ai:(i:Int)<(n+k:Nat):=by omega
      obtain⟨ae,F,ab,af,e1,K,h3,h4⟩:=y.out.rooms k aj;cases e1;obtain⟨a1,a2,a3,Z⟩:=K (by omega);have f0:=h4 (i *2) (by omega);have M:=h4 (i *2+1) (by omega);rw[<-Nat.add_assoc]at M;have z0:=z8 y.out.zf 0;have z1:=z8 y.out.zf 1;obtain⟨x0,aA⟩:=Option.isSome_iff_exists.1 f0.1;obtain⟨x1,aB⟩:=Option.isSome_iff_exists.1 M.1;have g0:=f0.2;have g1:=M.2;have ad:=z6 (λu0 u1=>y.out.drewN1.store (x:=F) (o:=ab+i *2) a2 Z u0 u1);have al:F≠f:=λe=>Z (.inr (.inr e));have am:F≠w.heap.size:=λe=>Z (.inr (.inl e));have aw:¬f=F:=λe=>al e.symm;have ax:¬w.heap.size=F:=λe=>am e.symm;rw[a1]at ap;clear f0 M K h4 an;go_wp2_with fail;go_region_held (λg=>g.cell? ⟨f,k,N⟩=S (.slice (S ⟨F,ab,N⟩) (n+k) (C k))/\g.cell? ⟨w.heap.size,0,N⟩=S (.string ⟨#[40,109,105,110,101,32,48]⟩)/\g.cell? ⟨w.heap.size,1,N⟩=S (.bool false)) (go_keep) (fail);all_goals go_wp2_with fail
      all_goals
       go_roundg (n+k-(i+1));case measure=>omega
       case rel=>exact⟨i+1,rfl,by go_num,by omega,ad.out _ _⟩
     ·have ai:¬(i:Int)<(n+k:Nat):=by omega
      have av:¬(i:Int)<(n:Int)+k:=by omega
      go_wp2_with fail;go_roundg (4-(k+1));case measure=>omega
      case rel=>exact⟨k+1,rfl,by go_num,by omega,y⟩
   ·have ak:¬(k:Int)<4:=by omega
    have aE:=z8 t.out.yk;have aC:=zi t.out.yk;have aD:=za t.out.yk;clear Y a5;go_wp2_with fail;go_end0;exact⟨rfl,(((t.out.below.setCell (p:=⟨a,2,N⟩) aq _).alloc (by simp;omega) _).alloc (by simp;omega) _).drew⟩
theorem Told.lst{w:World}{f B yb:Nat}{v:Value}{L:List (z7×Bool)}(h:Told w f v L)(y:B<=f)(A:yb<f):∃i b q c r,v=.slice i L.length c/\Lst w B (λx=>x=yb) i b q L.length c r:=by
 have n:=h;rcases n.2 with⟨rfl,l⟩|⟨k,c,m,rfl,z,d,o,p,s,t⟩;·refine⟨N,0,0,0,[],by rw[l],⟨⟨by omega,λh=>absurd h (by omega),λh=>absurd h (by omega),by simp[l],λj u e=>by simp at e,λj a=>by simp at a⟩,λh=>absurd h (by omega),by omega,λj a=>by omega⟩⟩
 ·refine⟨_,k,0,c,L.flatMap zrM,rfl,⟨⟨o,λ_=>rfl,λ_=>za d,h.1,?_,?_⟩,λ_=>⟨by omega,by omega⟩,p,λj a=>zi d _⟩⟩
  ·intro j u e;have a:j<L.length *2:=by have:=(List.getElem?_eq_some_iff.1 e).1;rw[h.1]at this;exact this
   have:=h.cellAt (g:=k) j a;rw[Nat.zero_add,this];exact e
  ·intro j a;refine⟨?_,zi d _⟩;rw[z8 d];have:0+L.length *2+j<m.size:=by omega
   rw[Array.getElem?_eq_getElem this];rfl
theorem Zs.of{l:List UInt8}{a:Except (Nat×Nat) (List ze×List Bool)}(h:Zo l a):∃r,Zs l r:=by
 cases h with
 |text h=>exact⟨_,h⟩|rules h _=>exact⟨_,h⟩|ok h _=>exact⟨_,h⟩
theorem Zo.len{l:List UInt8}{g:List ze}{E:List Bool}(h:Zo l (.ok (g,E))):(zr0 (zg g) E).length<=20:=by
 cases h with
 |ok h _=>obtain⟨_,b,_,a⟩:=zcf h;have:=a.le;simp[zr0,zg];omega
theorem zrf(s:ByteArray)(w:World)(c:Nat)(Z:s.size<=maxLen)(V:QD w)(D:w.heap[c]?=S zqQ):Calls P 19 #[.pointer (S ⟨c,0,N⟩),.string s] w λe w'=>e=.returned (.bool true)/\Below c w w':=by
 have W:=zu8 s w Z V;have a2:=za D;have HY:=z6 D;clear V D;go_enter func19,ntmps19;go_wp2_with fail;refine W.mono ?_;rintro e h⟨z,i,n,l⟩;obtain⟨r,X⟩:=Zs.of n;have Y:=zui s h Z r X;have ab:=z.size;have a3:=z6 z;have k:=z6 n;clear W z n X;obtain⟨L,v,d,a8,a7,a9⟩:∃(L:List (z7×Bool)) (v:Value) (d:Nat),L.length<=20/\e=.returned (.tuple #[v,I J d])/\(Told h w.heap.size v L/\∀(f:Ending) (a:World),(Below h.heap.size h a/\∃i,Zo s.data.toList i/\match i with| .ok (g,E)=>∃v,f=.returned (.tuple #[v,I J 0])/\Told a h.heap.size v (zr0 (zg g) E)| .error (d,_)=>d≠0/\f=.returned (.tuple #[.slice N 0 0,I J d]))->∃K,f=.returned (.tuple #[K,I J d])/\Told a h.heap.size K L):=by
  cases i with
  |error x=>obtain⟨d,p⟩:=x;refine⟨[],.slice N 0 0,d,by simp,l.2,World.ownsRow_nil _ _ _ _,?_⟩;rintro f a⟨_,af,o,m⟩;have:=k.out.det o;subst this;exact⟨_,m.2,World.ownsRow_nil _ _ _ _⟩
  |ok x=>obtain⟨g,E⟩:=x;obtain⟨v,hv,ht⟩:=l;refine⟨_,v,0,k.out.len,hv,ht,?_⟩;rintro f a⟨_,af,o,m⟩;have:=k.out.det o;subst this;exact m
 subst a7;obtain⟨t,a0⟩:=a9;obtain⟨G,H,rfl,_,_⟩:=t.gen;have a5:=z6 t;have Q:=z6 a0;clear l t a0;go_wp2_with fail;refine Y.mono ?_;rintro f a q;obtain⟨K,rfl,y⟩:=Q.out f a q;have A:=q.1;obtain⟨ai,aj,rfl,_,_⟩:=y.gen;have u:Told a w.heap.size (.slice G L.length H) L:=Zv a5.out A;have a1:=zuk a _ _ _ _ L u y;have a6:=z6 u;have M:Hid (Below w.heap.size w a):=a3.out.trans (A.mono ab);clear Y q y A u Q;go_wp2_with fail;refine a1.mono ?_;rintro _ j⟨rfl,C⟩;have O:Hid (Below w.heap.size w j):=M.out.trans (C.mono M.out.size);obtain⟨ao,b,ad,ag,ae,aa,R⟩:=(show Told j w.heap.size (.slice G L.length H) L from Zv a6.out C).lst (B:=c) (yb:=c) (by omega) a2;cases aa;have F:j.heap[c]?=S zqQ:=by rw[O.out.block c a2];exact HY.out
 have U:=zqV j c c G b ad L.length H ae F R (Nat.le_refl _) a8;have ah:=za F;clear a1 C R F;go_wp2_with fail;refine U.mono ?_;rintro _ w4⟨rfl,T⟩;have a4:Hid (Below c w w4):=(O.out.mono (by omega)).trans T;clear U T;go_wp2_with fail;go_ret;exact⟨by simp,a4.out⟩
theorem zr5(s:ByteArray)(w:World)(n:s.size<=maxLen)(c:QD w):Calls P 5 #[.string s] w λe o=>e=.returned (.bool true)/\Below w.heap.size w o:=by
 have a:=zc w zqQ;have h:=zsJ (w.alloc zqQ) (c.below a);have m:=z6 c;have k:=z6 a;clear c a;go_enter func5,ntmps5;go_wp2_with fail;refine h.mono ?_;rintro _ d⟨rfl,b⟩;have f:Hid (Below w.heap.size w d):=k.out.trans (b.mono (by simp));have j:d.heap[w.heap.size]?=S zqQ:=by rw[b.block _ (by simp)];exact zk _ _
 have i:=zrf s d w.heap.size n (m.out.below f.out) j;clear h b j;go_wp2_with fail;refine i.mono ?_;rintro _ p⟨rfl,g⟩;have l:Hid (Below w.heap.size w p):=f.out.trans g;clear i g;go_wp2_with fail;go_ret;exact⟨rfl,l.out⟩
end
end Go.Proofs.YtiganlkabilblaaGreatDoor
