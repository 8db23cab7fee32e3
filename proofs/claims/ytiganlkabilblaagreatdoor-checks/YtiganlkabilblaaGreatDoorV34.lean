import Derived.Test.YtiganlkabilblaaGreatDoorV33
import Derived.Test.YtiganlkabilblaaGreatDoorV03
import Derived.Shelf.Strings.OnBuilder
import Derived.Test.YtiganlkabilblaaGreatDoorV17
import Derived.BigQuiet
import Derived.Test.YtiganlkabilblaaGreatDoorV04
import Derived.Shelf.Strings.BuilderK
import Derived.Deep.RegionHeld
set_option linter.all false
set_option maxHeartbeats 64000000
set_option maxRecDepth 100000
namespace Go.Proofs.YtiganlkabilblaaGreatDoor
open Tryz
open Tryz renaming prog->P
open Option renaming some->S,none->N
open Value renaming int->I
open IntKind renaming i64->J
section
open Go.RowKit
attribute [local go_sem ↓] Go.wp_at_zero Go.wp_at_succ
theorem zcn{F:REv}{j:Nat}:∀{c:Nat} {o:Option Nat} {k:Nat} {v:Option Nat},Zf F j c o k=S v->∃e,v=S e
 |0,_,_,_,h=>by simp[Zf]at h
 |c+1,N,k,v,h=>by simp[Zf]at h;exact⟨k,h.symm⟩
 |c+1,S x,k,v,h=>by
  simp only[Zf]at h;split at h;·cases h
  ·exact zcn h
theorem JN:zF N= -1:=rfl
theorem QI(e:Nat):zF (S e)=(e:Int):=rfl
structure Yv(w:World)(w0:World)(tb eb ec:Nat)(vx vr:Value)(ps:List (RE×Value×Value))(rs:List (z7×Nat))(s:ByteArray)(rbs:List Nat)(f p0 ee:Nat)(O:Obj)(c:Nat)(o:Option Nat)(kk:Nat)(wr:World):Prop where
 rep:Zf (evS ps rs s f) p0 c o kk=some (some ee)
 st:Stt w0 tb eb ec vx vr ps rs s rbs wr
 kp:KpM rbs w.heap.size w wr
 own:wr.heap[w.heap.size]?=some O
 le:kk<=s.size
 lo:∀x,o=some x->x<=s.size
theorem zjo{G:World}{B gb F L M:Nat}{vx H:Value}{d:List (RE×Value×Value)}{r:List (z7×Nat)}{s:ByteArray}{E:List Nat}(hE:Env G B gb vx H d r s E)(f:Nat)(hT:JM G F L M vx H d r s E f)(w:World)(i k:Nat)(e:RE)(n v:Option Nat)(h:Stt G F L M vx H d r s E w)(hk:k<=s.size)(hx:(zK d)[i]?=S e)(am:okE (zj r) e=true)(ak:e.kind=8\/e.kind=9)(hn:evS d r s f (e.parts.headD 0) k=S n)(hv:(if e.kind=9/\n=N then S N else Zf (evS d r s f) (e.parts.headD 0) f n k)=S v):Calls P 148 #[.pointer (S ⟨F,0,N⟩),I J i,I J k] w λe' w'=>e'=.returned (I J (zF v))/\Stt G F L M vx H d r s E w'/\KpM E w.heap.size w w':=by
 obtain⟨Y,X,ia,ic,pa,pc,hi,rfl,aT,c0,c1,c2,c3,c4,aP,ap,aD,aK,_,ao,aE⟩:=h.exq hE hx am;obtain⟨aS,aR,an,q⟩:=h.cells;have aO:=hE.ple;have aQ:=hE.sle;have aL:(i:Int)<d.length:=by omega
 obtain⟨j,a8⟩:=ao (by omega);obtain⟨p,aG,ab,ai⟩:=ap 0 (by rw[a8];simp);subst aG;have aM:w.cell? ⟨p,0,N⟩=S (I J j):=by rw[World.cell?_of_block (a:=⟨p,0,N⟩) (an p ab),ai];simp[a8]
 have ar:G.cell? ⟨p,0,N⟩=S (I J j):=by rw[ai];simp[a8]
 have aN:p<w.heap.size:=by omega
 rw[a8]at hn c4 hv;simp only[List.headD_cons,List.length_singleton]at hn c4 hv;have ah:∀x,n=S x->x<=s.size:=by intro x aF;subst aF;exact(JO _ _ _ _ hn (show k<=s.data.toList.length from hk)).2
 have ax:=λ(O:Obj)=>hT (w.alloc O) j k n (h.below (zc w O)) hk hn;have aa:=z6 ax;have af:=z6 hT;have HF:=z6 h.fresh;have ae:=z6 ar;have HV:=z6 hv;have q0:w.cell? ⟨F,0,N⟩=S (.slice (S ⟨Y,0,N⟩) d.length X):=q 0;clear am aD ap h hx hE aE ax hT hn q an ai a8 ao ar hv;generalize e.items.length=il at *;generalize rfE (zj r) e 0=z at *;generalize e.text=tx at *;generalize e.kind=K at *;by_cases h9:K=9/\n=N
 ·obtain⟨rfl,rfl⟩:=h9;have aH:v=N:=by have:=HV.out;simpa using this.symm
  subst aH;simp only[JN]at *;go_enter func148,ntmps148;go_wp2_with fail;refine(aa.out _).mono ?_;rintro _ w1⟨rfl,V,A⟩;have t:=A.own HF.out;have qo:=z8 t;have lo:=za t;have aB:=z6 V;have aA:=z6 A.alloc;clear V A t;go_wp2_with fail;go_ret;exact⟨rfl,aB.out,aA.out⟩
 ·have ad:=HV.out;rw[if_neg h9]at ad;obtain⟨u,rfl⟩:=zcn ad;have ag:=z6 ad;have aj:K=8\/(K=9/\∃x,n=S x):=by
   rcases ak with Z|Z;·exact .inl Z
   ·refine .inr ⟨Z,?_⟩;cases n with
    |none=>exact absurd ⟨Z,rfl⟩ h9|some x=>exact⟨x,rfl⟩
  simp only[QI];clear ad HV h9 ak;have aC:(K=8/\n=N)\/(K=8/\∃x,n=S x)\/(K=9/\∃x,n=S x):=by
   rcases aj with Z|Z
   ·cases n with
    |none=>exact .inl ⟨Z,rfl⟩|some x=>exact .inr (.inl ⟨Z,x,rfl⟩)
   ·exact .inr (.inr Z)
  clear aj;rcases aC with⟨rfl,rfl⟩|⟨rfl,x0,rfl⟩|⟨rfl,x0,rfl⟩
  ·skip;go_enter func148,ntmps148;go_wp2_with fail;refine(aa.out _).mono ?_;rintro _ w1⟨rfl,V,A⟩;have t:=A.own HF.out;have qo:=z8 t;have lo:=za t;have a6:Hid (Yv w G F L M (.slice (S ⟨Y,0,N⟩) d.length X) H d r s E f j u (Obj.cells #[I J 8,.slice ia il ic,.string ⟨tx.toArray⟩,I J z,.slice (S ⟨p,0,N⟩) 1 pc] 149 (0,0)) f N k w1):=⟨ag.out,V,A.alloc,t,hk,ah⟩;clear V A t;simp only[JN];go_wp2_with fail;go_loopg[2,11] f (λm va vn wr=>∃(c:Nat) (o:Option Nat) (D:Nat),m=c/\va=I J D/\vn=I J (zF o)/\Hid (Yv w G F L M (.slice (S ⟨Y,0,N⟩) d.length X) H d r s E f j u (Obj.cells #[I J 8,.slice ia il ic,.string ⟨tx.toArray⟩,I J z,.slice (S ⟨p,0,N⟩) 1 pc] 149 (0,0)) c o D wr));case atStart=>exact⟨f,N,k,rfl,rfl,rfl,a6⟩
   case round=>
    obtain⟨c,o,D,al,rfl,rfl,b⟩:=hrel;cases c with
    |zero=>have:=b.out.rep;simp[Zf]at this
    |succ c=>
     obtain⟨aw,av,a0,_⟩:=b.out.st.cells;have az:=z8 b.out.own;have a9:=za b.out.own;cases o with
     |none=>
      have a7:u=D:=by have g:=b.out.rep;simp[Zf]at g;exact g.symm
      subst a7;simp only[JN];go_wp2_with fail;go_ret;exact⟨rfl,b.out.st,b.out.kp⟩
     |some x=>
      have W:=b.out.lo x rfl;have ay:(0:Int)<=(x:Int):=by omega
      have g:=b.out.rep;simp only[Zf]at g;obtain⟨l,U,a1⟩:∃l,evS d r s f j x=S l/\Zf (evS d r s f) j c l x=S (S u):=by
       cases hF:evS d r s f j x with
       |none=>rw[hF]at g;cases g|some l=>rw[hF]at g;exact⟨l,rfl,g⟩
      have a3:=af.out wr j x l b.out.st W U;have a5:=z6 a1;have a4:=z6 U;have aq:wr.cell? ⟨p,0,N⟩=S (I J j):=by rw[World.cell?_of_block (a:=⟨p,0,N⟩) (a0 p ab)];exact ae.out
      have au:p<wr.heap.size:=by omega
      simp only[QI];clear g a1 U a0;go_wp2_with fail;refine a3.mono ?_;rintro _ w3⟨rfl,a2,R⟩;have HN:Hid (Yv w G F L M (.slice (S ⟨Y,0,N⟩) d.length X) H d r s E f j u (Obj.cells #[I J 8,.slice ia il ic,.string ⟨tx.toArray⟩,I J z,.slice (S ⟨p,0,N⟩) 1 pc] 149 (0,0)) c l x w3):=by
       refine⟨a5.out,a2,KpM.go b.out.kp R,?_,W,?_⟩;·rw[R.block _ a9 (λhb=>by have:=HF.out _ hb;omega)];exact b.out.own
       ·intro y hy;subst hy;exact(JO _ _ _ _ a4.out (show x<=s.data.toList.length from W)).2
      clear a3 a2 R;go_wp2_with fail;go_roundg c;case measure=>omega
      case rel=>exact⟨c,l,x,rfl,rfl,rfl,HN⟩
  ·skip;go_enter func148,ntmps148;go_wp2_with fail;refine(aa.out _).mono ?_;rintro _ w1⟨rfl,V,A⟩;have t:=A.own HF.out;have qo:=z8 t;have lo:=za t;have a6:Hid (Yv w G F L M (.slice (S ⟨Y,0,N⟩) d.length X) H d r s E f j u (Obj.cells #[I J 8,.slice ia il ic,.string ⟨tx.toArray⟩,I J z,.slice (S ⟨p,0,N⟩) 1 pc] 149 (0,0)) f (S x0) k w1):=⟨ag.out,V,A.alloc,t,hk,ah⟩;clear V A t;have aI:¬(x0:Int)<0:=by omega
   have aJ:decide ((x0:Int)<0)=false:=by simp
   simp only[QI];go_wp2_with fail;go_loopg[2,11] f (λm va vn wr=>∃(c:Nat) (o:Option Nat) (D:Nat),m=c/\va=I J D/\vn=I J (zF o)/\Hid (Yv w G F L M (.slice (S ⟨Y,0,N⟩) d.length X) H d r s E f j u (Obj.cells #[I J 8,.slice ia il ic,.string ⟨tx.toArray⟩,I J z,.slice (S ⟨p,0,N⟩) 1 pc] 149 (0,0)) c o D wr));case atStart=>exact⟨f,(S x0),k,rfl,rfl,rfl,a6⟩
   case round=>
    obtain⟨c,o,D,al,rfl,rfl,b⟩:=hrel;cases c with
    |zero=>have:=b.out.rep;simp[Zf]at this
    |succ c=>
     obtain⟨aw,av,a0,_⟩:=b.out.st.cells;have az:=z8 b.out.own;have a9:=za b.out.own;cases o with
     |none=>
      have a7:u=D:=by have g:=b.out.rep;simp[Zf]at g;exact g.symm
      subst a7;simp only[JN];go_wp2_with fail;go_ret;exact⟨rfl,b.out.st,b.out.kp⟩
     |some x=>
      have W:=b.out.lo x rfl;have ay:(0:Int)<=(x:Int):=by omega
      have g:=b.out.rep;simp only[Zf]at g;obtain⟨l,U,a1⟩:∃l,evS d r s f j x=S l/\Zf (evS d r s f) j c l x=S (S u):=by
       cases hF:evS d r s f j x with
       |none=>rw[hF]at g;cases g|some l=>rw[hF]at g;exact⟨l,rfl,g⟩
      have a3:=af.out wr j x l b.out.st W U;have a5:=z6 a1;have a4:=z6 U;have aq:wr.cell? ⟨p,0,N⟩=S (I J j):=by rw[World.cell?_of_block (a:=⟨p,0,N⟩) (a0 p ab)];exact ae.out
      have au:p<wr.heap.size:=by omega
      simp only[QI];clear g a1 U a0;go_wp2_with fail;refine a3.mono ?_;rintro _ w3⟨rfl,a2,R⟩;have HN:Hid (Yv w G F L M (.slice (S ⟨Y,0,N⟩) d.length X) H d r s E f j u (Obj.cells #[I J 8,.slice ia il ic,.string ⟨tx.toArray⟩,I J z,.slice (S ⟨p,0,N⟩) 1 pc] 149 (0,0)) c l x w3):=by
       refine⟨a5.out,a2,KpM.go b.out.kp R,?_,W,?_⟩;·rw[R.block _ a9 (λhb=>by have:=HF.out _ hb;omega)];exact b.out.own
       ·intro y hy;subst hy;exact(JO _ _ _ _ a4.out (show x<=s.data.toList.length from W)).2
      clear a3 a2 R;go_wp2_with fail;go_roundg c;case measure=>omega
      case rel=>exact⟨c,l,x,rfl,rfl,rfl,HN⟩
  ·skip;go_enter func148,ntmps148;go_wp2_with fail;refine(aa.out _).mono ?_;rintro _ w1⟨rfl,V,A⟩;have t:=A.own HF.out;have qo:=z8 t;have lo:=za t;have a6:Hid (Yv w G F L M (.slice (S ⟨Y,0,N⟩) d.length X) H d r s E f j u (Obj.cells #[I J 9,.slice ia il ic,.string ⟨tx.toArray⟩,I J z,.slice (S ⟨p,0,N⟩) 1 pc] 149 (0,0)) f (S x0) k w1):=⟨ag.out,V,A.alloc,t,hk,ah⟩;clear V A t;have aI:¬(x0:Int)<0:=by omega
   have aJ:decide ((x0:Int)<0)=false:=by simp
   simp only[QI];go_wp2_with fail;go_loopg[2,11] f (λm va vn wr=>∃(c:Nat) (o:Option Nat) (D:Nat),m=c/\va=I J D/\vn=I J (zF o)/\Hid (Yv w G F L M (.slice (S ⟨Y,0,N⟩) d.length X) H d r s E f j u (Obj.cells #[I J 9,.slice ia il ic,.string ⟨tx.toArray⟩,I J z,.slice (S ⟨p,0,N⟩) 1 pc] 149 (0,0)) c o D wr));case atStart=>exact⟨f,(S x0),k,rfl,rfl,rfl,a6⟩
   case round=>
    obtain⟨c,o,D,al,rfl,rfl,b⟩:=hrel;cases c with
    |zero=>have:=b.out.rep;simp[Zf]at this
    |succ c=>
     obtain⟨aw,av,a0,_⟩:=b.out.st.cells;have az:=z8 b.out.own;have a9:=za b.out.own;cases o with
     |none=>
      have a7:u=D:=by have g:=b.out.rep;simp[Zf]at g;exact g.symm
      subst a7;simp only[JN];go_wp2_with fail;go_ret;exact⟨rfl,b.out.st,b.out.kp⟩
     |some x=>
      have W:=b.out.lo x rfl;have ay:(0:Int)<=(x:Int):=by omega
      have g:=b.out.rep;simp only[Zf]at g;obtain⟨l,U,a1⟩:∃l,evS d r s f j x=S l/\Zf (evS d r s f) j c l x=S (S u):=by
       cases hF:evS d r s f j x with
       |none=>rw[hF]at g;cases g|some l=>rw[hF]at g;exact⟨l,rfl,g⟩
      have a3:=af.out wr j x l b.out.st W U;have a5:=z6 a1;have a4:=z6 U;have aq:wr.cell? ⟨p,0,N⟩=S (I J j):=by rw[World.cell?_of_block (a:=⟨p,0,N⟩) (a0 p ab)];exact ae.out
      have au:p<wr.heap.size:=by omega
      simp only[QI];clear g a1 U a0;go_wp2_with fail;refine a3.mono ?_;rintro _ w3⟨rfl,a2,R⟩;have HN:Hid (Yv w G F L M (.slice (S ⟨Y,0,N⟩) d.length X) H d r s E f j u (Obj.cells #[I J 9,.slice ia il ic,.string ⟨tx.toArray⟩,I J z,.slice (S ⟨p,0,N⟩) 1 pc] 149 (0,0)) c l x w3):=by
       refine⟨a5.out,a2,KpM.go b.out.kp R,?_,W,?_⟩;·rw[R.block _ a9 (λhb=>by have:=HF.out _ hb;omega)];exact b.out.own
       ·intro y hy;subst hy;exact(JO _ _ _ _ a4.out (show x<=s.data.toList.length from W)).2
      clear a3 a2 R;go_wp2_with fail;go_roundg c;case measure=>omega
      case rel=>exact⟨c,l,x,rfl,rfl,rfl,HN⟩
structure zsT(w:World)(w0:World)(tb eb ec:Nat)(vx vr:Value)(ps:List (RE×Value×Value))(rs:List (z7×Nat))(s:ByteArray)(rbs:List Nat)(f:Nat)(parts:List Nat)(v:Option Nat)(O:Obj)(j:Nat)(o:Option Nat)(wr:World):Prop where
 sq:match o with
  |none=>v=none
  |some x=>Jb (evS ps rs s f) (parts.drop j) x=some v/\x<=s.size
 st:Stt w0 tb eb ec vx vr ps rs s rbs wr
 kp:KpM rbs w.heap.size w wr
 own:wr.heap[w.heap.size]?=some O
structure zaF(w:World)(w0:World)(tb eb ec:Nat)(vx vr:Value)(ps:List (RE×Value×Value))(rs:List (z7×Nat))(s:ByteArray)(rbs:List Nat)(f:Nat)(parts:List Nat)(k:Nat)(v:Option Nat)(O:Obj)(j:Nat)(wr:World):Prop where
 ch:chR (evS ps rs s f) (parts.drop j) k=some v
 st:Stt w0 tb eb ec vx vr ps rs s rbs wr
 kp:KpM rbs w.heap.size w wr
 own:wr.heap[w.heap.size]?=some O
theorem zjq{p:World}{B gb u D E:Nat}{R A:Value}{c:List (RE×Value×Value)}{g:List (z7×Nat)}{s:ByteArray}{t:List Nat}(F:Env p B gb R A c g s t)(f:Nat)(hT:JM p u D E R A c g s t f)(w:World)(i k:Nat)(e:RE)(v:Option Nat)(h:Stt p u D E R A c g s t w)(hk:k<=s.size)(hx:(zK c)[i]?=S e)(a5:okE (zj g) e=true)(a2:e.kind=5)(hv:Jb (evS c g s f) e.parts k=S v):Calls P 148 #[.pointer (S ⟨u,0,N⟩),I J i,I J k] w λe' w'=>e'=.returned (I J (zF v))/\Stt p u D E R A c g s t w'/\KpM t w.heap.size w w':=by
 obtain⟨V,U,G,H,L,M,hi,rfl,aE,c0,c1,c2,c3,c4,al,Z,ah,aq,_,av,ai⟩:=h.exq F hx a5;obtain⟨aB,az,aj,q⟩:=h.cells;have ax:=F.ple;have ay:=F.sle;have ar:(i:Int)<c.length:=by omega
 have ag:=z6 hT;have HF:=z6 h.fresh;have ad:=z6 Z;have q0:w.cell? ⟨u,0,N⟩=S (.slice (S ⟨V,0,N⟩) c.length U):=q 0;rw[a2]at c0;obtain⟨b,Y⟩:∃b,b=e.parts:=⟨_,rfl⟩;rw[<-Y]at c4 hv al;have ae:Hid (∀j (hj:j<b.length),∃n,L=S ⟨n,0,N⟩/\n<p.heap.size/\p.cell? ⟨n,j,N⟩=S (I J b[j])):=by rw[Y];exact Z
 clear Z ad ah ai hT q aj a2 Y;generalize e.items.length=K at *;generalize rfE (zj g) e 0=z at *;generalize e.text=O at *;have af:Hid (zsT w p u D E (.slice (S ⟨V,0,N⟩) c.length U) A c g s t f b v (Obj.cells #[I J 5,.slice G K H,.string ⟨O.toArray⟩,I J z,.slice L b.length M] 149 (0,0)) 0 (S k) (w.alloc (Obj.cells #[I J 5,.slice G K H,.string ⟨O.toArray⟩,I J z,.slice L b.length M] 149 (0,0)))):=⟨⟨hv,hk⟩,h.below (zc _ _),KpM.of_below (zc _ _),zk _ _⟩;clear h hx F hv a5;go_enter func148,ntmps148;go_wp2_with fail;go_loopg[2,8] (b.length) (λm va vj wr=>∃(j:Nat) (o:Option Nat),m=b.length-j/\va=I J (zF o)/\vj=I J j/\j<=b.length/\Hid (zsT w p u D E (.slice (S ⟨V,0,N⟩) c.length U) A c g s t f b v (Obj.cells #[I J 5,.slice G K H,.string ⟨O.toArray⟩,I J z,.slice L b.length M] 149 (0,0)) j o wr));case atStart=>exact⟨0,S k,by omega,rfl,rfl,by omega,af⟩
 case round=>
  obtain⟨j,o,rfl,rfl,rfl,hj,d⟩:=hrel;obtain⟨aC,aA,a6,_⟩:=d.out.st.cells;have aF:=z8 d.out.own;have ao:=za d.out.own;by_cases a3:j<b.length
  ·have a4:(j:Int)<b.length:=by omega
   cases o with
   |none=>have am:v=N:=d.out.sq;subst am;simp only[JN];go_wp2_with fail;go_ret;exact⟨rfl,d.out.st,d.out.kp⟩
   |some x=>
    obtain⟨r,aa⟩:=d.out.sq;have aD:(0:Int)<=(x:Int):=by omega
    obtain⟨n,rfl,ak,a1⟩:=ae.out j a3;have ap:wr.cell? ⟨n,j,N⟩=S (I J b[j]):=by rw[World.cell?_of_block (a:=⟨n,j,N⟩) (a6 n ak)];exact a1
    have aw:n<wr.heap.size:=by omega
    rw[List.drop_eq_getElem_cons a3]at r;simp only[Jb]at r;obtain⟨l,X,a7⟩:∃l,evS c g s f b[j] x=S l/\(match l with|none=>v=N|some y=>Jb (evS c g s f) (b.drop (j+1)) y=S v):=by
     cases hF:evS c g s f b[j] x with
     |none=>rw[hF]at r;cases r
     |some l=>
      rw[hF]at r;refine⟨l,rfl,?_⟩;cases l with
      |none=>exact(Option.some.inj r).symm|some y=>exact r
    have a9:=ag.out wr b[j] x l d.out.st aa X;have a0:=z6 a7;have ab:=z6 X;generalize b[j]=pj at *;simp only[QI];clear r a7 X a6 a1;go_wp2_with fail;refine a9.mono ?_;rintro _ w3⟨rfl,a8,W⟩;have HN:Hid (zsT w p u D E (.slice (S ⟨V,0,N⟩) c.length U) A c g s t f b v (Obj.cells #[I J 5,.slice G K H,.string ⟨O.toArray⟩,I J z,.slice (S ⟨n,0,N⟩) b.length M] 149 (0,0)) (j+1) l w3):=by
     refine⟨?_,a8,KpM.go d.out.kp W,?_⟩
     ·cases l with
      |none=>exact a0.out|some y=>exact⟨a0.out,(JO _ _ _ _ ab.out (show x<=s.data.toList.length from aa)).2⟩
     ·rw[W.block _ ao (λhb=>by have:=HF.out _ hb;omega)];exact d.out.own
    clear a9 a8 W;go_wp2_with fail;go_roundg (b.length-(j+1));case measure=>omega
    case rel=>exact⟨j+1,l,rfl,rfl,by go_num,by omega,HN⟩
  ·have a4:¬(j:Int)<b.length:=by omega
   have au:decide ((j:Int)<b.length)=false:=by simpa using a4
   have an:v=o:=by
    cases o with
    |none=>exact d.out.sq|some x=>have:=d.out.sq.1;rw[List.drop_of_length_le (by omega)]at this;exact(Option.some.inj this).symm
   subst an;go_wp2_with fail;go_ret;exact⟨rfl,d.out.st,d.out.kp⟩
theorem zjn{p:World}{B gb t x A:Nat}{M u:Value}{c:List (RE×Value×Value)}{d:List (z7×Nat)}{s:ByteArray}{r:List Nat}(D:Env p B gb M u c d s r)(f:Nat)(hT:JM p t x A M u c d s r f)(w:World)(i k:Nat)(e:RE)(v:Option Nat)(h:Stt p t x A M u c d s r w)(hk:k<=s.size)(hx:(zK c)[i]?=S e)(a5:okE (zj d) e=true)(a2:e.kind=6)(V:chR (evS c d s f) e.parts k=S v):Calls P 148 #[.pointer (S ⟨t,0,N⟩),I J i,I J k] w λe' w'=>e'=.returned (I J (zF v))/\Stt p t x A M u c d s r w'/\KpM r w.heap.size w w':=by
 obtain⟨X,W,E,F,H,K,hi,rfl,aD,c0,c1,c2,c3,c4,am,U,ah,ar,_,av,ai⟩:=h.exq D hx a5;obtain⟨aB,az,ak,q⟩:=h.cells;have ax:=D.ple;have ay:=D.sle;have au:(i:Int)<c.length:=by omega
 have ag:=z6 hT;have HF:=z6 h.fresh;have ad:=z6 U;have q0:w.cell? ⟨t,0,N⟩=S (.slice (S ⟨X,0,N⟩) c.length W):=q 0;rw[a2]at c0;obtain⟨b,R⟩:∃b,b=e.parts:=⟨_,rfl⟩;rw[<-R]at c4 V am;have ae:Hid (∀j (hj:j<b.length),∃l,H=S ⟨l,0,N⟩/\l<p.heap.size/\p.cell? ⟨l,j,N⟩=S (I J b[j])):=by rw[R];exact U
 clear U ad ah ai hT q ak a2 R;generalize e.items.length=G at *;generalize rfE (zj d) e 0=z at *;generalize e.text=L at *;have af:Hid (zaF w p t x A (.slice (S ⟨X,0,N⟩) c.length W) u c d s r f b k v (Obj.cells #[I J 6,.slice E G F,.string ⟨L.toArray⟩,I J z,.slice H b.length K] 149 (0,0)) 0 (w.alloc (Obj.cells #[I J 6,.slice E G F,.string ⟨L.toArray⟩,I J z,.slice H b.length K] 149 (0,0)))):=⟨V,h.below (zc _ _),KpM.of_below (zc _ _),zk _ _⟩;clear h hx D V a5;go_enter func148,ntmps148;go_wp2_with fail;go_loopg[9] (b.length) (λm vj wr=>∃(j:Nat),m=b.length-j/\vj=I J j/\j<=b.length/\Hid (zaF w p t x A (.slice (S ⟨X,0,N⟩) c.length W) u c d s r f b k v (Obj.cells #[I J 6,.slice E G F,.string ⟨L.toArray⟩,I J z,.slice H b.length K] 149 (0,0)) j wr));case atStart=>exact⟨0,by omega,rfl,by omega,af⟩
 case round=>
  obtain⟨j,rfl,rfl,hj,g⟩:=hrel;obtain⟨aC,aA,a6,_⟩:=g.out.st.cells;have aF:=z8 g.out.own;have ap:=za g.out.own;by_cases a3:j<b.length
  ·have aj:(j:Int)<b.length:=by omega
   have n:=g.out.ch;obtain⟨l,rfl,al,a1⟩:=ae.out j a3;have aq:wr.cell? ⟨l,j,N⟩=S (I J b[j]):=by rw[World.cell?_of_block (a:=⟨l,j,N⟩) (a6 l al)];exact a1
   have aw:l<wr.heap.size:=by omega
   rw[List.drop_eq_getElem_cons a3]at n;simp only[chR]at n;obtain⟨o,a4,a8⟩:∃o,evS c d s f b[j] k=S o/\(match o with|some y=>v=S y|none=>chR (evS c d s f) (b.drop (j+1)) k=S v):=by
    cases hF:evS c d s f b[j] k with
    |none=>rw[hF]at n;cases n
    |some o=>
     rw[hF]at n;refine⟨o,rfl,?_⟩;cases o with
     |none=>exact n|some y=>exact(Option.some.inj n).symm
   have aa:=ag.out wr b[j] k o g.out.st hk a4;have Z:=z6 a8;generalize b[j]=pj at *;clear n a8 a4 a6 a1;go_wp2_with fail;refine aa.mono ?_;rintro _ w3⟨rfl,a9,O⟩;have a7:w3.heap[w.heap.size]?=S (Obj.cells #[I J 6,.slice E G F,.string ⟨L.toArray⟩,I J z,.slice (S ⟨l,0,N⟩) b.length K] 149 (0,0)):=by rw[O.block _ ap (λhb=>by have:=HF.out _ hb;omega)];exact g.out.own
   have a0:=z6 a9;have Y:=z6 (KpM.go g.out.kp O);have ab:=z6 a7;clear aa a9 O a7;cases o with
   |none=>
    simp only[JN];go_wp2_with fail;go_roundg (b.length-(j+1));case measure=>omega
    case rel=>exact⟨j+1,rfl,by go_num,by omega,Z.out,a0.out,Y.out,ab.out⟩
   |some y=>
    have ao:v=S y:=Z.out;subst ao;have aE:(0:Int)<=(y:Int):=by omega
    simp only[QI];go_wp2_with fail;go_ret;exact⟨rfl,a0.out,Y.out⟩
  ·have aj:¬(j:Int)<b.length:=by omega
   have an:v=N:=by have:=g.out.ch;rw[List.drop_of_length_le (by omega)]at this;exact(Option.some.inj this).symm
   subst an;go_wp2_with fail;go_ret;exact⟨rfl,g.out.st,g.out.kp⟩
theorem zjl{z:World}{B G F A D:Nat}{y x:Value}{j:List (RE×Value×Value)}{g:List (z7×Nat)}{s:ByteArray}{u:List Nat}(l:Env z B G y x j g s u)(f:Nat)(o:JM z F A D y x j g s u f):zaU z F A D y x j g s u (f+1):=by
 intro w i k v h m a;simp only[evS,evR]at a;cases d:(zK j)[i]? with
 |none=>rw[d]at a;cases a
 |some e=>
  rw[d]at a;simp only[]at a;split at a;rotate_left;·cases a
  rename_i c;have J:1<=e.kind/\e.kind<=11:=by simp only[okE,Bool.and_eq_true,decide_eq_true_eq]at c;exact c.1.1
  unfold QH at a;by_cases E:e.kind<=3;·rw[if_pos E]at a;have:=zjm l w i k e h m d c (by omega);rw[Option.some.inj a]at this;exact this
  rw[if_neg E]at a;by_cases q:e.kind=4;·rw[if_pos q]at a;exact zjp l f o w i k e v h m d c q a
  rw[if_neg q]at a;by_cases r:e.kind=5;·rw[if_pos r]at a;exact zjq l f o w i k e v h m d c r a
  rw[if_neg r]at a;by_cases t:e.kind=6;·rw[if_pos t]at a;exact zjn l f o w i k e v h m d c t a
  rw[if_neg t]at a;unfold Jq at a;cases p:evS j g s f (e.parts.headD 0) k with
  |none=>rw[show evR (zK j) (zj g) (Zp g) s.data.toList f (e.parts.headD 0) k=N from p]at a;cases a
  |some n=>
   rw[show evR (zK j) (zj g) (Zp g) s.data.toList f (e.parts.headD 0) k=S n from p]at a;simp only[]at a;by_cases b:e.kind=7\/e.kind=10\/e.kind=11
   ·have:=zjr l f o w i k e n h m d c b p;have H:(if e.kind=7 then S (n.getD k)else if e.kind=10 then(if n.isSome then S k else N)else(if n.isSome then N else S k))=v:=by
     rcases b with b|b|b;·rw[if_pos b]at a|-;exact Option.some.inj a
     ·rw[if_neg (by omega),if_pos b]at a|-;exact Option.some.inj a
     ·rw[if_neg (by omega),if_neg (by omega),if_pos b]at a;rw[if_neg (by omega),if_neg (by omega)];exact Option.some.inj a
    rw[H]at this;exact this
   ·rw[if_neg (by omega),if_neg (by omega),if_neg (by omega)]at a;exact zjo l f o w i k e n v h m d c (by omega) p a
theorem zjs{A:World}{B gb m g j:Nat}{z y:Value}{l:List (RE×Value×Value)}{x:List (z7×Nat)}{s:ByteArray}{a:List Nat}(n:Env A B gb z y l x s a)(f:Nat)(K:zaU A m g j z y l x s a f):JM A m g j z y l x s a f:=by
 intro w i k v h o c;have hi:i<l.length:=by
  cases f with
  |zero=>simp[evS,evR]at c
  |succ f=>
   simp only[evS,evR]at c;cases hx:(zK l)[i]? with
   |none=>rw[hx]at c;cases c|some e=>have:=(List.getElem?_eq_some_iff.1 hx).1;simpa using this
 have ag:=n.len;have ai:=n.ple;have aj:=n.sle;have b:i<a.length:=by omega
 have t:=h;obtain⟨M,d,H⟩:=h;have F:=H i k (show k<=s.data.toList.length from o);have q:=z8 d.blk;have q3:w.cell? ⟨m,3,N⟩=S (.slice (S ⟨g,0,N⟩) a.length j):=q 3;have ak:=zd d.blk;have aa:=d.elt;have e1:=d.ends i b;have r1:=d.at i k b o;have am:=zd (d.row i b);have ad:(i:Int)<a.length:=by omega
 have ae:(k:Int)<(s.size:Int)+1:=by omega
 have af:(k:Int)<((s.size+1:Nat):Int):=by omega
 by_cases u:M i k= -2;·rw[u]at r1;have Y:=K w i k v t o c;have HV:=z6 c;have a1:=z6 Y;clear K n c Y H t d u F q;generalize a4:a[i]=rb at *;go_enter func112,ntmps112;go_wp2_with fail;refine a1.out.mono ?_;rintro _ p⟨rfl,a6,X⟩;obtain⟨M1,hA1,W⟩:=a6;have q1:p.cell? ⟨m,3,N⟩=S (.slice (S ⟨g,0,N⟩) a.length j):=z8 hA1.blk 3;have al:=zd hA1.blk;have ab:=hA1.elt;have a2:=hA1.ends i b;have a8:=hA1.at i k b o;have a9:=zd (hA1.row i b);have a3:p.frozen? ⟨a[i],k,N⟩=false:=zi (hA1.row i b) k;have hA2:=hA1.set i k b (zF v);have E:Hid (Stt A m g j z y l x s a (p.setCell ⟨a[i],k,N⟩ (I J (zF v)))):=⟨_,hA2,W.set HV.out⟩;have D:Hid (KpM a w.heap.size w (p.setCell ⟨a[i],k,N⟩ (I J (zF v)))):=X.set (List.getElem_mem b) _;have q2:(p.setCell ⟨a[i],k,N⟩ (I J (zF v))).cell? ⟨m,3,N⟩=S (.slice (S ⟨g,0,N⟩) a.length j):=z8 hA2.blk 3;have U:=hA2.ends i b;have L:=hA2.at i k b o;simp only[and_self,if_true]at L;rw[a4]at a2 a8 a9 a3 E D q2 U L;obtain⟨R,G⟩:∃R,R=zF v:=⟨_,rfl⟩;rw[<-G]at E D q2 U L|-;have HR:=z6 G;clear hA1 hA2 X W G;go_wp2_with fail;go_ret;exact⟨congrArg (λr=>Ending.returned (Value.int J r)) HR.out,E.out,D.out⟩
 ·obtain⟨f',O,Z,V⟩:=F.resolve_left u;have a7:O=v:=zbw Z c;subst a7;rw[V]at r1;have a5:=zeH O;have a0:=z6 t;clear K n c Z H t d u F q V;generalize a[i]=rb at *;generalize zF O=R at *;have ah:(R== -2)=false:=by simpa using a5
  go_enter func112,ntmps112;go_wp2_with fail;go_ret;exact⟨rfl,a0.out,KpM.refl _ _ _⟩
theorem zaC{j:World}{B l tb eb ec:Nat}{g e:Value}{b:List (RE×Value×Value)}{d:List (z7×Nat)}{s:ByteArray}{c:List Nat}(a:Env j B l g e b d s c):∀f,JM j tb eb ec g e b d s c f
 |0=>by intro w i k v h n m;simp[evS,evR]at m
 |f+1=>zjs a (f+1) (zjl a f (zaC a f))
end
section
open Go.RowKit
def znF:Go.Shelf.Ren:=⟨λ |156=>107|165=>146|166=>69|167=>197|169=>71|240=>105|241=>171|276=>144|277=>188|n=>n,λ |31=>58|9=>9|3=>3|4=>4|0=>0|20=>20|72=>138|76=>143|70=>136|37=>117|75=>78|127=>218|164=>189|5=>5|80=>47|n=>n,λ |n=>n⟩
theorem znT:Go.Proofs.Lays.n156 prog znF:={
 mixed:=by kernel_rfl
 f156:=func107.trans (congrArg some (by kernel_rfl))
 f165:=func146.trans (congrArg some (by kernel_rfl))
 f166:=func69.trans (congrArg some (by kernel_rfl))
 f169:=func71.trans (congrArg some (by kernel_rfl))
 f240:=func105.trans (congrArg some (by kernel_rfl))
 f241:=func171.trans (congrArg some (by kernel_rfl))
 f276:=func144.trans (congrArg some (by kernel_rfl))
 f277:=func188.trans (congrArg some (by kernel_rfl))
 t0:=underlying0
 a0:=isAgg0
 z0:=sizeOf0
 v0:=zeroValue0
 t3:=underlying3
 a3:=isAgg3
 z3:=sizeOf3
 v3:=zeroValue3
 t4:=underlying4
 a4:=isAgg4
 z4:=sizeOf4
 v4:=zeroValue4
 t9:=underlying9
 a9:=isAgg9
 z9:=sizeOf9
 v9:=zeroValue9
 t20:=underlying20
 a20:=isAgg20
 z20:=sizeOf20
 v20:=zeroValue20
 t31:=underlying58
 a31:=isAgg58
 z31:=sizeOf58
 v31:=zeroValue58
 t37:=underlying117
 a37:=isAgg117
 z37:=sizeOf117
 v37:=zeroValue117
 t70:=underlying136
 a70:=isAgg136
 z70:=sizeOf136
 v70:=zeroValue136
 t72:=underlying138
 a72:=isAgg138
 z72:=sizeOf138
 v72:=zeroValue138
 t75:=underlying78
 a75:=isAgg78
 z75:=sizeOf78
 v75:=zeroValue78
 t76:=underlying143
 a76:=isAgg143
 z76:=sizeOf143
 v76:=zeroValue143
 t127:=underlying218
 a127:=isAgg218
 z127:=sizeOf218
 v127:=zeroValue218
 t164:=underlying189
 a164:=isAgg189
 z164:=sizeOf189
 v164:=zeroValue189}
theorem zox:Go.Proofs.Lays.n167 prog znF:={
 mixed:=by kernel_rfl
 f167:=func197.trans (congrArg some (by kernel_rfl))
 f240:=func105.trans (congrArg some (by kernel_rfl))
 f276:=func144.trans (congrArg some (by kernel_rfl))
 t0:=underlying0
 a0:=isAgg0
 z0:=sizeOf0
 v0:=zeroValue0
 t4:=underlying4
 a4:=isAgg4
 z4:=sizeOf4
 v4:=zeroValue4
 t5:=underlying5
 a5:=isAgg5
 z5:=sizeOf5
 v5:=zeroValue5
 t9:=underlying9
 a9:=isAgg9
 z9:=sizeOf9
 v9:=zeroValue9
 t20:=underlying20
 a20:=isAgg20
 z20:=sizeOf20
 v20:=zeroValue20
 t37:=underlying117
 a37:=isAgg117
 z37:=sizeOf117
 v37:=zeroValue117
 t70:=underlying136
 a70:=isAgg136
 z70:=sizeOf136
 v70:=zeroValue136
 t72:=underlying138
 a72:=isAgg138
 z72:=sizeOf138
 v72:=zeroValue138
 t75:=underlying78
 a75:=isAgg78
 z75:=sizeOf78
 v75:=zeroValue78
 t164:=underlying189
 a164:=isAgg189
 z164:=sizeOf189
 v164:=zeroValue189}
theorem znE:Builder.Extra prog znF:={
 sizeBuilder:=by kernel_rfl
 liesBuilder:=by kernel_rfl
 t5:=underlying5
 a5:=isAgg5
 z5:=sizeOf5
 v5:=zeroValue5
 infoByte:=by kernel_rfl
 cellsByte:=by kernel_rfl
 sizeByte:=by kernel_rfl
 neB5:=by decide}
abbrev Bld(B b:Nat)(l:List UInt8)(w:World):Prop:=Lib.IsBuilder 138 5 B b (Lib.byteCells l) w
theorem zoz(w:World):Bld w.heap.size w.heap.size [] (w.alloc (.cells #[.pointer N,.slice N 0 0] 138)):=by refine .inl ⟨Nat.le_refl _,.slice N 0 0,?_,World.ownsRow_nil _ _ _ _,by simp[Value.ownBlock]⟩;exact zk w _
theorem zoD(l:List UInt8)(s:ByteArray):Lib.byteCells l++Lib.strCells s=Lib.byteCells (l++s.data.toList):=by simp[Lib.byteCells,Lib.strCells]
theorem zpz(B b:Nat)(l:List UInt8)(s:ByteArray)(w:World)(h:Bld B b l w)(i:l.length+s.size<=140737488355328)(f:B<=w.heap.size):Calls P 69 #[.pointer (S ⟨b,0,N⟩),.string s] w λe a=>e=.returned (.tuple #[I J s.size,.nilIface])/\Bld B b (l++s.data.toList) a/\Below B w a:=by have L:Go.Proofs.Lays.n166 P znF:={znT with};refine(Any.Builder_WriteString L znE B b _ s w h (by simpa[Lib.byteCells]using i) f).mono ?_;rintro e a⟨g,c,d⟩;refine⟨g,.inr ?_,d⟩;rw[zoD]at c;exact c
theorem zpA(B b:Nat)(l:List UInt8)(c:UInt8)(w:World)(h:Bld B b l w)(k:l.length+1<=140737488355328)(i:B<=w.heap.size):Calls P 197 #[.pointer (S ⟨b,0,N⟩),I .u8 c.toNat] w λe a=>e=.returned .nilIface/\Bld B b (l++[c]) a/\Below B w a:=by
 refine(Any.Builder_WriteByte zox znE B b _ c.toNat w h (by simpa[Lib.byteCells]using k) i).mono ?_;rintro e a⟨j,f,g⟩;refine⟨j,.inr ?_,g⟩;have d:Lib.byteCells (l++[c])=Lib.byteCells l++[I .u8 c.toNat]:=by simp[Lib.byteCells]
 rw[d];exact f
theorem zpy(B b:Nat)(l:List UInt8)(w:World)(h:Bld B b l w)(a:B<=w.heap.size):Calls P 71 #[.pointer (S ⟨b,0,N⟩)] w λe c=>e=.returned (.string ⟨l.toArray⟩)/\Below B w c:=by have L:Go.Proofs.Lays.n169 P znF:={znT with};exact Any.Builder_String_any L znE B b l w h a
theorem zpv(b o c:Nat)(a:List ByteArray)(d:ByteArray)(w:World)(i:∀(j:Nat) x,a[j]?=S x->w.cell? ⟨b,o+j,N⟩=S (.string x))(g:b<w.heap.size)(f:a.length<=140737488355328)(h:a.length<=c)(k:(Lib.join (a.map (·.data.toList)) d.data.toList).length<=140737488355328):Calls P 107 #[.slice (S ⟨b,o,N⟩) a.length c,.string d] w λe l=>e=.returned (.string ⟨(Lib.join (a.map (·.data.toList)) d.data.toList).toArray⟩)/\Below w.heap.size w l:=Any.strings_Join znT znE b o c a d w i g f h k
end
section
open Go.RowKit
attribute [local go_sem ↓] Go.wp_at_zero Go.wp_at_succ
theorem zoG(c d:UInt8)(w:World):(convert 117 9 (.slice (S ⟨w.heap.size,0,N⟩) 2 2)).run prog (w.alloc (.cells #[I .u8 c.toNat,I .u8 d.toNat] 5))=.ok (.string ⟨#[c,d]⟩) (w.alloc (.cells #[I .u8 c.toNat,I .u8 d.toNat] 5)):=by
 have h:=run_convert_bytes_back (P:=prog) (w.alloc (.cells #[I .u8 c.toNat,I .u8 d.toNat] 5)) 117 9 5 ⟨w.heap.size,0,N⟩ 2 [c,d] underlying117 underlying5 underlying9 (by
  intro j a;have e:j=0\/j=1:=by simp at a;omega
  rcases e with rfl|rfl;·exact z8 (zk w _) 0
  ·exact z8 (zk w _) 1)
 exact h
theorem zor(c:UInt8)(m:ByteArray)(w:World):Calls P 198 #[I .u8 c.toNat,.string m] w λe k=>e=.returned (.string ⟨(znf m.data.toList c).toArray⟩)/\Below w.heap.size w k:=by
 by_cases b:c=10;·subst b;go_enter func198,ntmps198;go_wp2_with fail;go_ret;exact⟨rfl,Below.refl _ _⟩
 ·have l:¬(c.toNat:Int)=10:=by intro e;apply b;apply UInt8.toNat_inj.1;simpa using(by omega:c.toNat=10)
  have o:((c.toNat:Int)==10)=false:=by simpa using l
  by_cases d:c=9;·subst d;go_enter func198,ntmps198;go_wp2_with fail;go_ret;exact⟨rfl,Below.refl _ _⟩
  ·have n:¬(c.toNat:Int)=9:=by intro e;apply d;apply UInt8.toNat_inj.1;simpa using(by omega:c.toNat=9)
   have q:((c.toNat:Int)==9)=false:=by simpa using n
   by_cases h:c=92
   ·subst h;have a:znf m.data.toList 92=[92,92]:=by unfold znf;rw[if_neg b,if_neg d,if_pos (.inl rfl)]
    rw[a];have g:=zoG 92 92 w;rw[show(((92:UInt8).toNat:Nat):Int)=92 from rfl]at g;clear l o n q b d a;go_enter func198,ntmps198;go_wp2_with fail;go_ret;exact⟨rfl,zc _ _⟩
   ·have p:¬(c.toNat:Int)=92:=by intro e;apply h;apply UInt8.toNat_inj.1;simpa using(by omega:c.toNat=92)
    have r:((c.toNat:Int)==92)=false:=by simpa using p
    cases f:m.data.toList.contains c with
    |true=>
     have a:znf m.data.toList c=[92,c]:=by unfold znf;rw[if_neg b,if_neg d,if_pos (.inr f)]
     rw[a];have i:=za5 m c w f;have g:=zoG 92 c w;rw[show(((92:UInt8).toNat:Nat):Int)=92 from rfl]at g;clear a f;go_enter func198,ntmps198;go_wp2_with(go_at_call 159;refine i.mono ?_;rintro e k⟨j,s,rfl,rfl⟩);go_wp2_with fail;go_ret;exact⟨rfl,zc _ _⟩
    |false=>
     have a:znf m.data.toList c=[c]:=by unfold znf;rw[if_neg b,if_neg d,if_neg (by rw[f];simp[h])]
     rw[a];have i:=za4 m c w f;have g:=zoF c w;clear a f;go_enter func198,ntmps198;go_wp2_with(go_at_call 159;refine i.mono ?_;rintro e k⟨rfl,rfl⟩);go_wp2_with fail;go_ret;exact⟨rfl,zc _ _⟩
theorem zp9(b:UInt8)(w:World):Calls P 168 #[I .u8 b.toNat] w λe d=>e=.returned (.string ⟨(zne b).toArray⟩)/\Below w.heap.size w d:=by
 by_cases a:b=0;·subst a;go_enter func168,ntmps168;go_wp2_with fail;go_ret;exact⟨rfl,Below.refl _ _⟩
 ·have f:((b.toNat:Int)==0)=false:=Q3 a 0 rfl;have c:zne b=[b]:=by unfold zne;rw[if_neg a]
  rw[c];have g:=zoF b w;clear a c;go_enter func168,ntmps168;go_wp2_with fail;go_ret;exact⟨rfl,zc _ _⟩
theorem zpe{a:UInt8}:((a.toNat:Int)!=0)=(a !=0):=by
 rw[Bool.eq_iff_iff,bne_iff_ne,bne_iff_ne];constructor;·intro h e;apply h;rw[e];rfl
 ·intro h e;apply h;apply UInt8.toNat_inj.1;rw[show(0:UInt8).toNat=0 from rfl];omega
theorem zpb(c b:UInt8)(f:TypeId)(g:Value)(w:World):Calls P 170 #[.agg #[I .u8 c.toNat,.iface f g,I .u8 b.toNat]] w λe i=>e=.returned (.bool (c !=0||b !=0))/\Below w.heap.size w i:=by
 have d:=zpe (a:=c);have j:=zpe (a:=b);cases h:(c !=0)with
 |true=>rw[h]at d;clear h;go_enter func170,ntmps170;go_wp2_with fail;go_ret;exact⟨rfl,zc _ _⟩|false=>rw[h]at d;generalize (b !=0)=r at *;clear h;go_enter func170,ntmps170;go_wp2_with fail;go_ret;exact⟨by simp,zc _ _⟩
theorem zoC(B b:Nat)(l:List UInt8)(c:UInt8)(i:Int)(f:(c.toNat:Int)=i)(w:World)(h:Bld B b l w)(g:l.length+1<=140737488355328)(d:B<=w.heap.size):Calls P 197 #[.pointer (S ⟨b,0,N⟩),I .u8 i] w λe a=>e=.returned .nilIface/\Bld B b (l++[c]) a/\Below B w a:=f▸zpA B b l c w h g d
theorem Bld.below{B b:Nat}{l:List UInt8}{w w':World}(h:Bld B b l w)(c:Below w.heap.size w w'):Bld B b l w':=by
 rcases h with⟨d,v,a,e,f⟩|⟨d,v,a,e,f⟩;·exact .inl ⟨d,v,by rw[c.block _ (zd a)];exact a,Zv e c,f⟩
 ·exact .inr ⟨d,v,by rw[c.block _ (zd a)];exact a,Zv e c,f⟩
theorem znU(l:List UInt8):(ByteArray.mk l.toArray).size=l.length:=by show l.toArray.size=_;simp
theorem zpN(s:ByteArray)(w:World)(V:s.size<=250000):Calls P 185 #[.string s] w λe O=>e=.returned (.string ⟨(znr s.data.toList).toArray⟩)/\Below w.heap.size w O:=by
 have t:∀i,((s.data.toList.take i).flatMap (znf [39])).length<=500000:=by
  intro i;have h:∀b:z7,(b.flatMap (znf [39])).length<=2 *b.length:=by
   intro b;induction b with
   |nil=>simp|cons c b Z=>have:=znw [39] c;rw[List.flatMap_cons,List.length_append,List.length_cons];omega
  have:=h (s.data.toList.take i);rw[List.length_take]at this;have:s.data.toList.length=s.size:=rfl;omega
 have y:=zoC w.heap.size w.heap.size [] 39 39 rfl _ (zoz w) (by simp) (by simp);have l:=z6 t;clear t;go_enter func185,ntmps185;go_wp2_with fail;refine y.mono ?_;rintro _ D⟨rfl,n,j⟩;have N:=j.size;simp at N;have L:Hid (Bld w.heap.size w.heap.size (39::(s.data.toList.take 0).flatMap (znf [39])) D/\Below w.heap.size w D):=⟨n,(zc _ _).trans j⟩;clear y n j;go_wp2_with fail;go_loopg[8] s.size (λm v wr=>∃i:Nat,m=s.size-i/\v=I J i/\i<=s.size/\Hid (Bld w.heap.size w.heap.size (39::(s.data.toList.take i).flatMap (znf [39])) wr/\Below w.heap.size w wr));case atStart=>exact⟨0,by omega,rfl,by omega,L⟩
 case round=>
  obtain⟨i,rfl,rfl,W,a⟩:=hrel;have u:=a.out.2.size;by_cases M:i<s.size
  ·have B:=zor s[i] ⟨#[39]⟩ wr;have d:s.data.toList.take (i+1)=s.data.toList.take i++[s[i]]:=by
    have:i<s.data.toList.length:=by simpa using M
    rw[List.take_succ_eq_append_getElem this];simp;rfl
   have g:=z6 d;clear d;go_wp2_with fail;refine B.mono ?_;rintro _ R⟨rfl,f⟩;have X:=f.size;have z:=zpz w.heap.size w.heap.size _ ⟨(znf [39] s[i]).toArray⟩ R (a.out.1.below f) (by rw[znU,List.length_cons];have:=l.out i;have:=znw [39] s[i];omega) (by omega);have F:=z6 (a.out.2.trans (f.mono u));clear B f;go_wp2_with fail;refine z.mono ?_;rintro _ E⟨rfl,o,q⟩;have K:Hid (Bld w.heap.size w.heap.size (39::(s.data.toList.take (i+1)).flatMap (znf [39])) E/\Below w.heap.size w E):=by refine⟨?_,F.out.trans q⟩;rw[g.out,List.flatMap_append];simpa using o
   clear z o q;go_wp2_with fail;go_roundg (s.size-(i+1));case measure=>omega
   case rel=>exact⟨i+1,rfl,by go_num,by omega,K⟩
  ·have d:s.data.toList.take i=s.data.toList:=List.take_of_length_le (by simp;show s.size<=i;omega);have A:=zoC w.heap.size w.heap.size _ 39 39 rfl wr a.out.1 (by rw[List.length_cons];have:=l.out i;omega) u;have g:=z6 d;clear d;go_wp2_with fail;refine A.mono ?_;rintro _ U⟨rfl,p,k⟩;have Y:=k.size;have x:=zpy w.heap.size w.heap.size _ U p (by omega);have G:=z6 (a.out.2.trans k);clear A p k;go_wp2_with fail;refine x.mono ?_;rintro _ w6⟨rfl,r⟩;have H:=z6 (G.out.trans r);clear x r;go_wp2_with fail;go_ret;refine⟨?_,H.out⟩;rw[g.out];rfl
end
section
open Go.RowKit
abbrev znh(B b:Nat)(l:List UInt8)(w:World):Prop:=Lib.IsBuilderF 138 5 B b (Lib.byteCells l) w
theorem zoy(w:World):znh w.heap.size w.heap.size [] (w.alloc (.cells #[.pointer N,.slice N 0 0] 138)):=by
 rcases zoz w with h|h;·exact .inl (Lib.BuilderAtF.of h)
 ·exact .inr (Lib.BuilderAtF.of h)
theorem zob(B b:Nat)(l:List UInt8)(s:ByteArray)(w:World)(h:znh B b l w)(j:l.length+s.size<=140737488355328)(g:B<=w.heap.size):Calls P 69 #[.pointer (S ⟨b,0,N⟩),.string s] w λe a=>e=.returned (.tuple #[I J s.size,.nilIface])/\znh B b (l++s.data.toList) a/\Below B w a/\Lib.OthersKept 5 (S b) w a:=by have L:Go.Proofs.Lays.n166 P znF:={znT with};refine(Any.Builder_WriteString_k L znE B b _ s w h (by simpa[Lib.byteCells]using j) g).mono ?_;rintro e a⟨i,c,d,f⟩;refine⟨i,.inr ?_,d,f⟩;rw[zoD]at c;exact c
theorem zoa(B b:Nat)(l:List UInt8)(c:UInt8)(i:Int)(n:(c.toNat:Int)=i)(w:World)(h:znh B b l w)(o:l.length+1<=140737488355328)(k:B<=w.heap.size):Calls P 197 #[.pointer (S ⟨b,0,N⟩),I .u8 i] w λe a=>e=.returned .nilIface/\znh B b (l++[c]) a/\Below B w a/\Lib.OthersKept 5 (S b) w a:=by
 subst n;refine(Any.Builder_WriteByte_k zox znE B b _ c.toNat w h (by simpa[Lib.byteCells]using o) k).mono ?_;rintro e a⟨m,f,g,j⟩;refine⟨m,.inr ?_,g,j⟩;have d:Lib.byteCells (l++[c])=Lib.byteCells l++[I .u8 c.toNat]:=by simp[Lib.byteCells]
 rw[d];exact f
theorem zoB(B b:Nat)(l:List UInt8)(w:World)(h:znh B b l w)(d:B<=w.heap.size):Calls P 71 #[.pointer (S ⟨b,0,N⟩)] w λe a=>e=.returned (.string ⟨l.toArray⟩)/\Below B w a:=by have L:Go.Proofs.Lays.n169 P znF:={znT with};refine(Any.Builder_String_any_k L znE B b l w h d).mono ?_;rintro e a⟨f,_,c,_⟩;exact⟨f,c⟩
theorem zoZ{w f:World}{b:Nat}{e:TypeId}{d:Nat}{v:Value}{n:Nat}{i:List Value}(h:w.ownsRowF b e d v n i)(o:Below w.heap.size w f):f.ownsRowF b e d v n i:=by
 obtain⟨m,a⟩:=h;refine⟨m,?_⟩;rcases a with a|⟨g,j,k,l,q,p,c,r⟩;·exact .inl a
 ·exact .inr ⟨g,j,k,l,q,p,by rw[o.block _ (zd c)];exact c,r⟩
theorem znh.below{B b:Nat}{l:List UInt8}{w w':World}(h:znh B b l w)(c:Below w.heap.size w w'):znh B b l w':=by
 rcases h with⟨d,v,a,e,f⟩|⟨d,v,a,e,f⟩;·exact .inl ⟨d,v,by rw[c.block _ (zd a)];exact a,zoZ e c,f⟩
 ·exact .inr ⟨d,v,by rw[c.block _ (zd a)];exact a,zoZ e c,f⟩
theorem znh.lt{B b:Nat}{l:List UInt8}{w:World}(h:znh B b l w):b<w.heap.size:=by rcases h with⟨_,v,a,_⟩|⟨_,v,a,_⟩<;>exact zd a
end
section
open Go.RowKit
attribute [local go_sem ↓] Go.wp_at_zero Go.wp_at_succ
abbrev zo5(p:zR):Obj:=.cells #[I .u8 p.1.toNat,I .u8 p.2.toNat] 313 (0,0)
theorem zoE(l:List zR)(i:Nat)(h:l.length<=100000):((l.take i).flatMap (zng [93,45])).length<=500000:=by have:=zpc [93,45] (l.take i);rw[List.length_take]at this;omega
theorem zpD(w:World)(u:Value)(l:List zR)(h:Qr w 0 u l)(hl:l.length<=100000):Calls prog 186 #[u] w λe w'=>e=.returned (.string ⟨(znv l).toArray⟩)/\Below w.heap.size w w':=by
 obtain⟨ua,uc,rfl⟩:=zl h;have ab:=zoa w.heap.size w.heap.size [] 91 91 rfl _ (zoy w) (by simp) (by simp);have am:=z6 h;clear h;go_enter func186,ntmps186;go_wp2_with fail;refine ab.mono ?_;rintro _ w1⟨rfl,Z,F,_⟩;have au:=F.size;simp at au;have HS:Hid (znh w.heap.size w.heap.size (91::(l.take 0).flatMap (zng [93,45])) w1/\Below w.heap.size w w1):=⟨Z,(zc _ _).trans F⟩;clear ab Z F;go_wp2_with fail;go_loopg[9] l.length (λm v wr=>∃i:Nat,m=l.length-i/\v=I J i/\i<=l.length/\Hid (znh w.heap.size w.heap.size (91::(l.take i).flatMap (zng [93,45])) wr/\Below w.heap.size w wr));case atStart=>exact⟨0,by omega,rfl,by omega,HS⟩
 case round=>
  obtain⟨i,rfl,rfl,hi,d⟩:=hrel;have a8:=d.out.2.size;have az:=d.out.1.lt;by_cases L:i<l.length
  ·have aq:(i:Int)<l.length:=by omega
   obtain⟨g,rfl,K,a5⟩:=Jk am.out (by omega);have W:wr.cell? ⟨g,i *2,N⟩=S (I .u8 l[i].1.toNat):=by rw[d.out.2.cell (p:=⟨g,_,N⟩) a5,K _ (by omega)];have:=q6 l i 0 L (by decide);exact this
   have Y:wr.cell? ⟨g,i *2+1,N⟩=S (I .u8 l[i].2.toNat):=by rw[d.out.2.cell (p:=⟨g,_,N⟩) a5,K _ (by omega)];have:=q6 l i 1 L (by decide);exact this
   have M:(l.take (i+1)).flatMap (zng [93,45])=(l.take i).flatMap (zng [93,45])++zng [93,45] l[i]:=by rw[List.take_succ_eq_append_getElem L,List.flatMap_append];simp
   have H:=zoE l i hl;obtain⟨⟨a,b⟩,hp⟩:∃ax,ax=l[i]:=⟨_,rfl⟩;rw[<-hp]at W Y M;simp only[]at W Y;generalize (l.take i).flatMap (zng [93,45])=P at *;obtain⟨X,n⟩:∃X,X=wr.alloc (.cells #[I .u8 a.toNat,I .u8 b.toNat] 313):=⟨_,rfl⟩;have a3:Below wr.heap.size wr X:=by rw[n];exact zc _ _
   have E:X.heap[wr.heap.size]?=S (zo5 (a,b)):=by rw[n];exact zk _ _
   have ay:X.heap.size=wr.heap.size+1:=by rw[n];simp
   have xo:=z8 E;have af:=zor a ⟨#[93,45]⟩ X;have V:=z6 a3;have ao:=z6 E;have U:=z6 M;have z:=z6 H;have aw:wr.heap.size<X.heap.size:=by omega
   clear hp M H K a3 E;go_wp2_with fail;rw[<-n];clear n;go_wp2_with fail;refine af.mono ?_;rintro _ w2⟨rfl,o⟩;have aC:=o.size;have a2:w2.heap[wr.heap.size]?=S (zo5 (a,b)):=by rw[o.block _ aw];exact ao.out
   have ad:=zob w.heap.size w.heap.size _ ⟨(znf [93,45] a).toArray⟩ w2 (d.out.1.below (V.out.trans (o.mono (by omega)))) (by rw[znU,List.length_cons];have:=z.out;have:=znw [93,45] a;omega) (by omega);have ah:=z6 ((d.out.2.trans (V.out.mono a8)).trans (o.mono (by omega)));have ak:=z6 a2;clear af o a2;go_wp2_with fail;refine ad.mono ?_;rintro _ s⟨rfl,a0,G,a6⟩;have aD:=G.size;have B:s.heap[wr.heap.size]?=S (zo5 (a,b)):=a6 _ _ ak.out (by intro e;have:=Option.some.inj e;omega) (by intro c fz e;cases e);have x3:=z8 B;have l3:=za B;have O:=z6 (ah.out.trans G);have R:=z6 a0;clear ad a0 G a6;by_cases q:a=b
   ·subst q;have A:Hid (znh w.heap.size w.heap.size (91::(l.take (i+1)).flatMap (zng [93,45])) s/\Below w.heap.size w s):=by refine⟨?_,O.out⟩;rw[U.out];have:=R.out;simpa[zng]using this
    go_wp2_with fail;go_roundg (l.length-(i+1));case measure=>omega
    case rel=>exact⟨i+1,rfl,by go_num,by omega,A⟩
   ·have aA:((a.toNat:Int)!=(b.toNat:Int))=true:=by rw[bne_iff_ne];intro e;apply q;apply UInt8.toNat_inj.1;omega
    have aB:((a.toNat:Int)==(b.toNat:Int))=false:=by rw[beq_eq_false_iff_ne];intro e;apply q;apply UInt8.toNat_inj.1;omega
    have r:=zoa w.heap.size w.heap.size _ 45 45 rfl s R.out (by simp;have:=z.out;have:=znw [93,45] a;omega) (by omega);have al:=z6 B;have aj:=z6 q;clear q;go_wp2_with fail;refine r.mono ?_;rintro _ t⟨rfl,k,f,a7⟩;have av:=f.size;have D:t.heap[wr.heap.size]?=S (zo5 (a,b)):=a7 _ _ al.out (by intro e;have:=Option.some.inj e;omega) (by intro c fz e;cases e);have x5:=z8 D;have l5:=za D;have ag:=zor b ⟨#[93,45]⟩ t;have x:=z6 (O.out.trans f);have ai:=z6 k;clear r k f a7 D x3 xo;go_wp2_with fail;refine ag.mono ?_;rintro _ w6⟨rfl,j⟩;have aE:=j.size;have ae:=zob w.heap.size w.heap.size _ ⟨(znf [93,45] b).toArray⟩ w6 (ai.out.below j) (by rw[znU];simp;have:=z.out;have:=znw [93,45] a;have:=znw [93,45] b;omega) (by omega);have y:=z6 (x.out.trans (j.mono (by omega)));clear ag j;go_wp2_with fail;refine ae.mono ?_;rintro _ w8⟨rfl,a1,a4,ap⟩;have A:Hid (znh w.heap.size w.heap.size (91::(l.take (i+1)).flatMap (zng [93,45])) w8/\Below w.heap.size w w8):=by refine⟨?_,y.out.trans a4⟩;rw[U.out];have ar:¬b=a:=λe=>aj.out e.symm;have:=a1;simpa[zng,ar]using this
    clear ae a1 a4 ap;go_wp2_with fail;go_roundg (l.length-(i+1));case measure=>omega
    case rel=>exact⟨i+1,rfl,by go_num,by omega,A⟩
  ·have aq:¬(i:Int)<l.length:=by omega
   have aa:l.take i=l:=List.take_of_length_le (by omega);have H:=zoE l i hl;have r:=zoa w.heap.size w.heap.size _ 93 93 rfl wr d.out.1 (by rw[List.length_cons];omega) a8;have an:=z6 aa;clear aa;go_wp2_with fail;refine r.mono ?_;rintro _ t⟨rfl,k,f,_⟩;have av:=f.size;have a9:=zoB w.heap.size w.heap.size _ t k (by omega);have x:=z6 (d.out.2.trans f);clear r k f;go_wp2_with fail;refine a9.mono ?_;rintro _ w6⟨rfl,j⟩;have y:=z6 (x.out.trans j);clear a9 j;go_wp2_with fail;go_ret;refine⟨?_,y.out⟩;rw[an.out];rfl
def PlP(k:Nat):Prop:=∀(w:World) (A:Nat->Prop) (p:zC) (v:Value) (a:Bool),zp w A p v->Y6 p<=k->wtP p<=500000->Calls P 169 #[v,.bool a] w λe b=>e=.returned (.string ⟨(prP p a).toArray⟩)/\Below w.heap.size w b
def PlT(k:Nat):Prop:=∀(w:World) (A:Nat->Prop) (t:Term) (v:Value),Zk w A t v->Jx t<=k->wtT t<=500000->Calls P 145 #[QN t v] w λe a=>e=.returned (.string ⟨(prT t).toArray⟩)/\Below w.heap.size w a
def PlC(k:Nat):Prop:=∀(w:World) (A:Nat->Prop) (c:Z5) (u:Value),Zt w A c u->Qt c<=k->wtC c<=500000->Calls P 70 #[u] w λe a=>e=.returned (.string ⟨(prC c).toArray⟩)/\Below w.heap.size w a
def PlG(k:Nat):Prop:=∀(w:World) (A:Nat->Prop) (c:Z5) (u:Value) (a:Bool),Zt w A c u->Qt c<=k->wtC c<=500000->Calls P 187 #[u,.bool a] w λe b=>e=.returned (.string ⟨(prP (.group c) a).toArray⟩)/\Below w.heap.size w b
theorem zpu(x:Value)(w:World):(Instr.typeAssert (.iface 319 x) 247 319 true).run P w=.ok (.tuple #[x,.bool true]) w:=by kernel_rfl
theorem zpr(x:Value)(w:World):(Instr.typeAssert (.iface 321 x) 247 319 true).run P w=.ok (.tuple #[.agg #[.string ⟨#[]⟩],.bool false]) w:=by kernel_rfl
theorem zpq(x:Value)(w:World):(Instr.typeAssert (.iface 321 x) 247 321 true).run P w=.ok (.tuple #[x,.bool true]) w:=by kernel_rfl
theorem zpp(x:Value)(w:World):(Instr.typeAssert (.iface 345 x) 247 319 true).run P w=.ok (.tuple #[.agg #[.string ⟨#[]⟩],.bool false]) w:=by kernel_rfl
theorem zpo(x:Value)(w:World):(Instr.typeAssert (.iface 345 x) 247 321 true).run P w=.ok (.tuple #[.agg #[.slice N 0 0],.bool false]) w:=by kernel_rfl
theorem zpt(x:Value)(w:World):(Instr.typeAssert (.iface 296 x) 247 319 true).run P w=.ok (.tuple #[.agg #[.string ⟨#[]⟩],.bool false]) w:=by kernel_rfl
theorem zps(x:Value)(w:World):(Instr.typeAssert (.iface 296 x) 247 321 true).run P w=.ok (.tuple #[.agg #[.slice N 0 0],.bool false]) w:=by kernel_rfl
theorem zpT(k:Nat)(e:∀B,B<k->PlG B):PlP k:=by
 intro w A p v D a f d;cases p with
 |name b=>simp only[zp]at a;obtain⟨rfl,H⟩:=a;simp only[prP];have h:=Ui;clear f d e;go_enter func169,ntmps169;go_wp2_with fail;go_ret;exact⟨rfl,zc _ _⟩
 |lit b=>simp only[zp]at a;subst a;simp only[wtP]at d;have h:=Uh;have i:=zpu;have j:=λO=>zpN ⟨b.toArray⟩ (w.alloc O) (by rw[znU];omega);simp only[prP];rw[show(ByteArray.mk b.toArray).data.toList=b from by simp]at j;clear f d e;go_enter func169,ntmps169;go_wp2_with fail;refine(j _).mono ?_;rintro _ E⟨rfl,g⟩;clear j;go_wp2_with fail;go_ret;exact⟨rfl,(zc _ _).trans (g.mono (by simp))⟩
 |cls l=>simp only[zp]at a;obtain⟨u,rfl,o⟩:=a;obtain⟨q,r,rfl⟩:=zl o;simp only[wtP]at d;have h:=Ue;have i:=zpr;have s:=zpq;have t:=λO=>zpD (w.alloc O) (.slice q l.length r) l (Zv o (zc w O)) (by omega);simp only[prP];generalize l.length=n at *;clear f d e o;go_enter func169,ntmps169;go_wp2_with fail;refine(t _).mono ?_;rintro _ E⟨rfl,g⟩;clear t;go_wp2_with fail;go_ret;exact⟨rfl,(zc _ _).trans (g.mono (by simp))⟩
 |any=>simp only[zp]at a;subst a;have h:=Uc;have i:=zpp;have s:=zpo;have F:=Vn;simp only[prP];clear f d e;go_enter func169,ntmps169;go_wp2_with fail;go_ret;exact⟨rfl,Below.refl _ _⟩
 |group c=>
  simp only[zp]at a;obtain⟨u,G,rfl,m,z⟩:=a;obtain⟨q,r,rfl⟩:=zl m.1;have x:Qt c<k:=by simp only[Y6]at f;omega
  simp only[wtP]at d;have y:=λO=>e _ x (w.alloc O) A c (.slice q c.length r) D (Zt.kept (ZF (zc w O)) ⟨G,m,z⟩) (Nat.le_refl _) (by omega);have h:=Uf;have i:=zpt;have s:=zps;have F:=Vo;generalize prP (.group c) D=R at *;generalize c.length=n at *;clear f d e m z x;go_enter func169,ntmps169;go_wp2_with fail;refine(y _).mono ?_;rintro _ E⟨rfl,g⟩;clear y;go_wp2_with fail;go_ret;exact⟨rfl,(zc _ _).trans (g.mono (by simp))⟩
end
end Go.Proofs.YtiganlkabilblaaGreatDoor
