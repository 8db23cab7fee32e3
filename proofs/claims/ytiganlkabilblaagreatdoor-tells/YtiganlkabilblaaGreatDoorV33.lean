import Derived.Test.YtiganlkabilblaaGreatDoorV32
import Derived.Test.YtiganlkabilblaaGreatDoorV24
set_option linter.all false
set_option maxHeartbeats 64000000
set_option maxRecDepth 100000
namespace Go.Proofs.YtiganlkabilblaaGreatDoor
open Tryz
open Tryz renaming prog->P
open Option renaming some->S,none->N
open Value renaming int->I
open IntKind renaming i64->J
section
open Go.RowKit
attribute [local go_sem ↓] Go.wp_at_zero Go.wp_at_succ
theorem zfR(p q:Nt)(D:YL p)(E:YL q)(np:p≠.nil)(nq:q≠.nil):YL (.pair p q):=by
 intro w b B a c k d h hB Z hd;simp only[szN]at Z hd;have a2:=zd h.blk;obtain⟨tp,vp,o⟩:∃t v,ntV p=.iface t v:=by
  rcases QV p with e|e;·exact absurd (zad e) np
  ·exact e
 obtain⟨tq,vq,r⟩:∃t v,ntV q=.iface t v:=by
  rcases QV q with e|e;·exact absurd (zad e) nq
  ·exact e
 obtain⟨F,W,y⟩:=VD D o;obtain⟨G,X,z⟩:=VD E r;have L:Hid (∀O,Calls P F #[vp,z9 b] (w.alloc O) λe s=>e=.returned (.tuple #[])/\JJ b B a c k (zY d p) d (w.alloc O) s):=z6 (λO=>y (w.alloc O) b B a c k d (h.kp (zc _ _)) (by simp;omega) (by omega) (by omega));have M:Hid (∀f i j,Lsg f b B i j (k++zY d p) d->B<=f.heap.size->Calls P G #[vq,z9 b] f λe s=>e=.returned (.tuple #[])/\JJ b B i j (k++zY d p) (zY d q) d f s):=z6 (λf i j l V=>z f b B i j _ d l V (by rw[List.length_append,YS];omega) (by omega));have K:Hid (S w.heap.size≠obS a k.length c):=z6 (λe=>by have:=(h.row.lt _ e.symm).2;omega);have n1:w.heap.size≠b:=by omega
 have mU:=methodListU;have mP:=methodListP;have A:zY d (.pair p q)=zY d p++zY d q:=rfl;rw[o,r,A];have R:Hid (∀O:Obj,Below w.heap.size w (w.alloc O)):=z6 (λO=>zc _ _);clear D E o r y z A h;rcases W with⟨rfl,rfl⟩|⟨rfl,rfl⟩<;>rcases X with⟨rfl,rfl⟩|⟨rfl,rfl⟩;all_goals
  go_enter func260,ntmps260;go_wp2_with fail;refine(L.out _).mono ?_;rintro _ f⟨rfl,i,j,l,n,u⟩;have a0:=n.size;simp at a0;have m:=n.block w.heap.size (by simp) n1 K.out;rw[zk]at m;have q1:=z8 m 1;have e1:=za m;have N:=z6 (M.out f i j l (by omega));have J:=z6 ((KpL.of_below (lb:=b) (ob:=obS a k.length c) (R.out _)).trans n (.inl rfl));have H:=z6 u;clear n u m l;go_wp2_with fail;refine N.out.mono ?_;rintro _ w2⟨rfl,x⟩;have U:=z6 (JJ.trans J.out (by
   rcases H.out with e|⟨g,e,Y⟩;·exact .inl e
   ·exact .inr ⟨g,e,by simp at Y;omega⟩) x)
  clear x;go_wp2_with fail;go_end0;exact⟨rfl,U.out⟩
theorem UN:∀m:Nt,wfN m->YL m
 | .nil,_=>trivial
 | .use i x y m,h=>zfS i x y m (UN m h)
 | .pair p q,h=>zfR p q (UN p h.2.2.1) (UN q h.2.2.2) h.1 h.2.1
theorem zg3(w:World)(O:Obj):Lsg ((w.alloc O).alloc (YE (.slice N 0 0) 0)) (w.heap.size+1) (w.heap.size+2) N 0 [] 0:=by refine⟨?_,World.ownsRow_nil _ _ _ _⟩;have:=zk (w.alloc O) (YE (.slice N 0 0) 0);simpa using this
def qy(w:World)(l:List Nod)(e:Ending)(b:World):Prop:=∃a c,e=.returned (.slice a l.length c)/\b.ownsRow w.heap.size 60 4 (.slice a l.length c) l.length (l.flatMap ZZ)/\Below w.heap.size w b
theorem zgO(w:World)(i x y:Nat)(m:Nt)(g:wfN m)(q:szN m<=900000):Calls P 57 #[.agg #[I J i,I J x,I J y,ntV m]] w (qy w (zY 0 (.use i x y m))):=by
 have f:YL (.use i x y m):=UN (.use i x y m) g;have j:=z6 (f ((w.alloc (usO i x y (ntV m))).alloc (YE (.slice N 0 0) 0)) (w.heap.size+1) (w.heap.size+2) N 0 [] 0 (zg3 w _) (by simp) (by simp[szN];omega) (by simp[szN];omega));have o:=QV m;clear f g;generalize zY 0 (.use i x y m)=L at *;generalize ntV m=r at *;rcases o with rfl|⟨t,u,rfl⟩;all_goals
  go_enter func57,ntmps57;go_wp2_with fail;refine j.out.mono ?_;rintro _ h⟨rfl,d,e,c,a,l⟩;rw[List.nil_append]at c;have s:h.cell? ⟨w.heap.size+1,0,N⟩=S (.slice d L.length e):=z8 c.blk 0;have p:=za c.blk;have k:Hid (qy w L (.returned (.slice d L.length e)) h):=z6 ⟨d,e,rfl,Zn c.row (by omega),a.os,a.tape,a.output,by have:=a.size;simp at this;omega,λb n=>by rw[a.block b (by simp;omega) (by omega) (by simp[obS,Value.ownBlock]),zm _ _ (by simp;omega),zm _ _ n]⟩
  clear c a l;go_wp2_with fail;go_ret;exact k.out
theorem zjr{L:World}{B gb y M R:Nat}{H G:Value}{l:List (RE×Value×Value)}{m:List (z7×Nat)}{s:ByteArray}{v:List Nat}(D:Env L B gb H G l m s v)(f:Nat)(V:JM L y M R H G l m s v f)(w:World)(i k:Nat)(e:RE)(n:Option Nat)(h:Stt L y M R H G l m s v w)(W:k<=s.size)(hx:(zK l)[i]?=S e)(X:okE (zj m) e=true)(a4:e.kind=7\/e.kind=10\/e.kind=11)(r:evS l m s f (e.parts.headD 0) k=S n):Calls P 148 #[.pointer (S ⟨y,0,N⟩),I J i,I J k] w λe' w'=>e'=.returned (I J (zF (if e.kind=7 then S (n.getD k)else if e.kind=10 then(if n.isSome then S k else N)else(if n.isSome then N else S k))))/\Stt L y M R H G l m s v w'/\KpM v w.heap.size w w':=by
 obtain⟨xg,xc,ia,ic,pa,pc,hi,rfl,am,c0,c1,c2,c3,U,ah,a0,a3,ab,_,Z,a5⟩:=h.exq D hx X;obtain⟨ak,aj,Y,q⟩:=h.cells;have ag:=D.ple;have ai:=D.sle;have ad:(i:Int)<l.length:=by omega
 obtain⟨p0,E⟩:=Z (by omega);obtain⟨F,a8,a9,a1⟩:=a0 0 (by rw[E];simp);subst a8;have ae:w.cell? ⟨F,0,N⟩=S (I J p0):=by rw[World.cell?_of_block (a:=⟨F,0,N⟩) (Y F a9),a1];simp[E]
 have af:F<w.heap.size:=by omega
 rw[E]at r U;simp only[List.headD_cons,List.length_singleton]at r U;have a6:∀x,n=S x->k<=x:=by intro x a7;subst a7;exact(JO _ _ _ _ r (show k<=s.data.toList.length from W)).1
 have a2:=λ(O:Obj)=>V (w.alloc O) p0 k n (h.below (zc w O)) W r;have p:=z6 a2;have o:=z6 h.fresh;have q0:w.cell? ⟨y,0,N⟩=S (.slice (S ⟨xg,0,N⟩) l.length xc):=q 0;clear X a3 a0 h hx D a5 a2 V r q Y a1 E Z;generalize e.items.length=il at *;generalize rfE (zj m) e 0=z at *;generalize e.text=tx at *;generalize e.kind=K at *;rcases a4 with rfl|rfl|rfl
 ·cases n with
  |none=>go_enter func148,ntmps148;go_wp2_with fail;refine(p.out _).mono ?_;rintro _ A⟨rfl,d,b⟩;have c:=b.own o.out;have u:=z8 c;have t:=za c;have j:=z6 d;have g:=z6 b.alloc;clear d b c;simp only[zF];go_wp2_with fail;go_ret;exact⟨by simp[zF];try omega,j.out,g.out⟩
  |some x=>have al:=a6 x rfl;go_enter func148,ntmps148;go_wp2_with fail;refine(p.out _).mono ?_;rintro _ A⟨rfl,d,b⟩;have c:=b.own o.out;have u:=z8 c;have t:=za c;have j:=z6 d;have g:=z6 b.alloc;clear d b c;simp only[zF];go_wp2_with fail;go_ret;exact⟨by simp[zF];try omega,j.out,g.out⟩
 ·cases n with
  |none=>go_enter func148,ntmps148;go_wp2_with fail;refine(p.out _).mono ?_;rintro _ A⟨rfl,d,b⟩;have c:=b.own o.out;have u:=z8 c;have t:=za c;have j:=z6 d;have g:=z6 b.alloc;clear d b c;simp only[zF];go_wp2_with fail;go_ret;exact⟨by simp[zF],j.out,g.out⟩
  |some x=>
   have aa:¬(x:Int)<0:=by omega
   go_enter func148,ntmps148;go_wp2_with fail;refine(p.out _).mono ?_;rintro _ A⟨rfl,d,b⟩;have c:=b.own o.out;have u:=z8 c;have t:=za c;have j:=z6 d;have g:=z6 b.alloc;clear d b c;simp only[zF];go_wp2_with fail;go_ret;exact⟨by simp[zF],j.out,g.out⟩
 ·cases n with
  |none=>go_enter func148,ntmps148;go_wp2_with fail;refine(p.out _).mono ?_;rintro _ A⟨rfl,d,b⟩;have c:=b.own o.out;have u:=z8 c;have t:=za c;have j:=z6 d;have g:=z6 b.alloc;clear d b c;simp only[zF];go_wp2_with fail;go_ret;exact⟨by simp[zF],j.out,g.out⟩
  |some x=>
   have aa:(0:Int)<=(x:Int):=by omega
   go_enter func148,ntmps148;go_wp2_with fail;refine(p.out _).mono ?_;rintro _ A⟨rfl,d,b⟩;have c:=b.own o.out;have u:=z8 c;have t:=za c;have j:=z6 d;have g:=z6 b.alloc;clear d b c;simp only[zF];go_wp2_with fail;go_ret;exact⟨by simp[zF],j.out,g.out⟩
end
end Go.Proofs.YtiganlkabilblaaGreatDoor
