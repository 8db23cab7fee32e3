import Derived.Test.YtiganlkabilblaaGreatDoorV48
import Derived.Test.YtiganlkabilblaaGreatDoorV41
import Derived.Test.YtiganlkabilblaaGreatDoorV47
import Derived.Test.YtiganlkabilblaaGreatDoorRows
import Derived.Test.YtiganlkabilblaaGreatDoorV00
import Derived.Deep.Slices
import Derived.WalkKit
import Derived.ProofKit
import Derived.OpenShut
import Derived.ShutString
import Derived.ChangeMaps5
import Derived.ChangeOld
import Derived.Below
import Derived.ChangeSame
import Derived.ChangeVars
import Derived.JoinedOf
import Derived.RowKit
import Derived.RowKitTokens
import Derived.BigQuiet
set_option linter.all false
set_option maxHeartbeats 64000000
set_option maxRecDepth 100000
open Go.Proofs.Tryz
open Go.Proofs.Tryz renaming prog->P
namespace Go.Proofs.YtiganlkabilblaaGreatDoor
open Tryz
open Option renaming some->S,none->N
open Value renaming int->I
open IntKind renaming i64->J
section
open Go.RowKit Go.Lib
attribute [local go_sem ↓] Go.wp_at_zero Go.wp_at_succ
section
variable {w0 w w' : World} {yb : Nat} {o : Nat → Nat} {ps : List Pr} {bk : Bool → List Nat}
def zrS(w0:World)(yb:Nat)(ps:List Pr)(bk:Bool->List Nat)(w':World):Prop:=∃c b a,zqU w0 yb c b a w'/\b.length<=ps.length+1/\∀q,(a q).length<=(bk q).length+1
theorem zrv.stp{f:Value}(h:zrv w0 yb ps bk f w w'):zrS w0 yb ps bk w':=by obtain⟨b,e,a,c,g,d,_⟩:=h;exact⟨b,e,a,c,by omega,d⟩
theorem zup(h:zqU w0 yb o ps bk w)(B:QD w0)(a r:Int)(t s:ByteArray)(hk:1<=a/\a<=10)(hr:i64 r)(y:t.size<=maxLen)(hs:s.size<=281474976710656)(V:ps.length<=5000000000000)(K:∀q,(bk q).length<=5000000000000):Calls P 50 #[z9 yb,.agg #[I J a,I J r,.string t,.string s]] w λe w'=>e=.returned (.bool true)/\zrS w0 yb ps bk w':=by
 have x:=zc w (opO a r t s);have b:=h.below x;have j:(w.alloc (opO a r t s)).heap[w.heap.size]?=S (opO a r t s):=zk _ _;obtain⟨vp,vv,f⟩:=b.ex;have p:=f.e1;have u:=f.e2;obtain⟨pa,M,rfl⟩:=zl u;have X:s.size<=maxLen:=by unfold maxLen;omega
 have l:=B.below b.bel;have v:Hid (∀w',Below (w.alloc (opO a r t s)).heap.size (w.alloc (opO a r t s)) w'->Hid (zrS w0 yb ps bk w')):=z6 (λw' hb=>z6 ⟨o,ps,bk,b.below hb,by omega,λ_=>by omega⟩);by_cases a6:2<=a/\a<=5
 ·have k1:¬a=1:=by omega
  have k6:¬a=6:=by omega
  have k7:¬a=7:=by omega
  have k8:¬a=8:=by omega
  have k9:¬a=9:=by omega
  have af:¬a=10:=by omega
  have kl:¬a<2:=by omega
  have kg:¬5<a:=by omega
  have y0:(w.alloc (opO a r t s)).cell? ⟨yb,0,N⟩=S (.slice pa ps.length M):=z8 p 0;have a9:yb<(w.alloc (opO a r t s)).heap.size:=zd p;have ae:yb<w.heap.size+1:=by simpa using a9
  by_cases h0:ps.length=0
  ·have d:Hid (zrS w0 yb ps bk (w.alloc (opO a r t s))):=z6 ⟨o,ps,bk,b,by omega,λ_=>by omega⟩;have a3:(ps.length:Int)=0:=by omega
   clear h x b j p u f l v;go_enter func50,ntmps50;go_wp2_with fail;go_ret;exact⟨rfl,d.out⟩
  ·have a3:¬(ps.length:Int)=0:=by omega
   have H:=zh9 r (n:=ps.length) (by omega);have a0:Hid (∀W:World,Calls P 79 #[I J r,I J ps.length] W λe w'=>e=.returned (I J ↑(YY r ps.length))/\w'=W):=z6 (λW=>zg2 r ps.length W hr (by omega) V);generalize YY r ps.length=i at *;have ad:(i:Int)<(ps.length:Int):=by omega
   obtain⟨m,rfl,a8,a4,a5,A,E⟩:∃m,pa=S ⟨m,0,N⟩/\m<(w.alloc (opO a r t s)).heap.size/\(w.alloc (opO a r t s)).cell? ⟨m,i *2,N⟩=S (z9 ps[i].xb)/\(w.alloc (opO a r t s)).cell? ⟨m,i *2+1,N⟩=S (z9 ps[i].cb)/\∃A,(w.alloc (opO a r t s)).heap[m]?=S (.cells A 167 (0,0)):=by
    rcases u.2 with⟨e,hz⟩|⟨G,aa,A,Y,_,B,_⟩;·exact absurd hz h0
    ·simp at Y;obtain⟨rfl,rfl⟩:=Y;refine⟨G,rfl,za B,?_,?_,A,B⟩;·have:=u.cellAt (g:=G) (i *2) (by omega);rw[this];exact zc4 ps i 0 H (by decide)
     ·have:=u.cellAt (g:=G) (i *2+1) (by omega);rw[this];exact zc4 ps i 1 H (by decide)
   have a1:Hid (∀W:World,Below (w.alloc (opO a r t s)).heap.size (w.alloc (opO a r t s)) W->Calls P 78 #[z9 yb,.agg #[z9 ps[i].xb,z9 ps[i].cb],.agg #[I J a,I J r,.string t,.string s]] W λe w'=>e=.returned (.bool true)/\(w'.cell? ⟨yb,0,N⟩=S (.slice (S ⟨m,0,N⟩) ps.length M)/\w'.cell? ⟨m,i *2,N⟩=S (z9 ps[i].xb)/\w'.cell? ⟨m,i *2+1,N⟩=S (z9 ps[i].cb)/\w'.cell? ⟨w.heap.size,0,N⟩=S (I J a)/\w'.cell? ⟨w.heap.size,1,N⟩=S (I J r)/\w'.cell? ⟨w.heap.size,2,N⟩=S (.string t)/\w'.cell? ⟨w.heap.size,3,N⟩=S (.string s))/\Hid (zrS w0 yb ps bk w')):=z6 (λW D=>by
    refine(zug (b.below D) (f.below D b.yo) H a r t s a6 hs (K false)).mono ?_;rintro e w'⟨rfl,L,O,a2,p1,p2,p3,Z,ag,ah,p5⟩;have R:W.heap[w.heap.size]?=S (opO a r t s):=by rw[D.block _ (zd j)];exact j
    have U:W.heap[m]?=S (.cells A 167 (0,0)):=by rw[D.block _ a8];exact E
    have F:=(Z _ _ _ R (.inr rfl)).trans R;have qp:=(Z _ _ _ U (.inl rfl)).trans U;refine⟨rfl,⟨z8 p5 0,?_,?_,z8 F 0,z8 F 1,z8 F 2,z8 F 3⟩,z6 ⟨L,O,a2,p1,by omega,p3⟩⟩;·rw[z8 qp, <-z8 E];exact a4
    ·rw[z8 qp, <-z8 E];exact a5)
   have q0:(w.alloc (opO a r t s)).cell? ⟨w.heap.size,0,N⟩=S (I J a):=z8 j 0;have q1:(w.alloc (opO a r t s)).cell? ⟨w.heap.size,1,N⟩=S (I J r):=z8 j 1;have q2:(w.alloc (opO a r t s)).cell? ⟨w.heap.size,2,N⟩=S (.string t):=z8 j 2;have q3:(w.alloc (opO a r t s)).cell? ⟨w.heap.size,3,N⟩=S (.string s):=z8 j 3;clear h x b j p u f E l v;generalize ps[i].xb=xb at *;generalize ps[i].cb=cb at *;go_enter func50,ntmps50;go_wp2_with fail;go_region_held (λw'=>w'.cell? ⟨yb,0,N⟩=S (.slice (S ⟨m,0,N⟩) ps.length M)/\w'.cell? ⟨m,i *2,N⟩=S (z9 xb)/\w'.cell? ⟨m,i *2+1,N⟩=S (z9 cb)/\w'.cell? ⟨w.heap.size,0,N⟩=S (I J a)/\w'.cell? ⟨w.heap.size,1,N⟩=S (I J r)/\w'.cell? ⟨w.heap.size,2,N⟩=S (.string t)/\w'.cell? ⟨w.heap.size,3,N⟩=S (.string s)) (first|assumption|go_keep) (first|(go_at_call 79;refine(a0.out _).mono ?_;rintro _ _⟨rfl,rfl⟩)|(go_at_call 78;refine(a1.out _ ((Below.refl _ _).drew)).mono ?_;rintro _ z⟨rfl,ab,d⟩));all_goals go_wp2_with fail
   all_goals go_ret
   all_goals exact⟨rfl,d.out⟩
 ·have a7:a=1\/a=6\/a=7\/a=8\/a=9\/a=10:=by omega
  rcases a7 with rfl|rfl|rfl|rfl|rfl|rfl
  ·have c:Hid (Calls P 77 #[z9 yb,.string t] (w.alloc (opO 1 r t s)) λe w'=>e=.returned (.bool true)/\Hid (zrS w0 yb ps bk w')):=z6 ((ztR b t y B V).mono (λe w' k=>⟨k.1,by
   obtain⟨_,L,O,h1,h2⟩:=k;exact z6 ⟨L,O,bk,h1,h2,λ_=>by omega⟩⟩))
   clear h x b j p u f l v;go_enter func50,ntmps50;go_wp2_with fail;refine c.out.mono ?_;rintro _ z⟨rfl,d⟩;clear c;go_wp2_with fail;go_ret;exact⟨rfl,d.out⟩
  ·have c:Hid (Calls P 3 #[.string t] (w.alloc (opO 6 r t s)) λe w'=>e=.returned (.bool true)/\Hid (zrS w0 yb ps bk w')):=z6 ((ztF t _ y l).mono (λe w' k=>⟨k.1,v.out w' k.2⟩));clear h x b j p u f l v;go_enter func50,ntmps50;go_wp2_with fail;refine c.out.mono ?_;rintro _ z⟨rfl,d⟩;clear c;go_wp2_with fail;go_ret;exact⟨rfl,d.out⟩
  ·have c:Hid (Calls P 4 #[.string t] (w.alloc (opO 7 r t s)) λe w'=>e=.returned (.bool true)/\Hid (zrS w0 yb ps bk w')):=z6 ((zu7 t _ y l).mono (λe w' k=>⟨k.1,v.out w' k.2⟩));clear h x b j p u f l v;go_enter func50,ntmps50;go_wp2_with fail;refine c.out.mono ?_;rintro _ z⟨rfl,d⟩;clear c;go_wp2_with fail;go_ret;exact⟨rfl,d.out⟩
  ·have c:Hid (Calls P 19 #[z9 yb,.string t] (w.alloc (opO 8 r t s)) λe w'=>e=.returned (.bool true)/\Hid (zrS w0 yb ps bk w')):=z6 ((zut t _ yb _ _ _ _ _ _ y l p (f.e3 true) (K true) b.bel.size).mono (λe w' k=>⟨k.1,z6 (b.bookedR f true k.2).stp⟩));clear h x b j p u f l v;go_enter func50,ntmps50;go_wp2_with fail;refine c.out.mono ?_;rintro _ z⟨rfl,d⟩;clear c;go_wp2_with fail;go_ret;exact⟨rfl,d.out⟩
  ·have c:Hid (Calls P 20 #[.string t,.string s] (w.alloc (opO 9 r t s)) λe w'=>e=.returned (.bool true)/\Hid (zrS w0 yb ps bk w')):=z6 ((ztP t s _ y X l).mono (λe w' k=>⟨k.1,v.out w' k.2⟩));clear h x b j p u f l v;go_enter func50,ntmps50;go_wp2_with fail;refine c.out.mono ?_;rintro _ z⟨rfl,d⟩;clear c;go_wp2_with fail;go_ret;exact⟨rfl,d.out⟩
  ·have c:Hid (Calls P 21 #[z9 yb,.string t,.string s] (w.alloc (opO 10 r t s)) λe w'=>e=.returned (.bool true)/\Hid (zrS w0 yb ps bk w')):=z6 ((zuu t s _ yb _ _ _ _ _ _ y X l p (f.e3 false) (K false) b.bel.size).mono (λe w' k=>⟨k.1,z6 (b.bookedR f false k.2).stp⟩));clear h x b j p u f l v;go_enter func50,ntmps50;go_wp2_with fail;refine c.out.mono ?_;rintro _ z⟨rfl,d⟩;clear c;go_wp2_with fail;go_ret;exact⟨rfl,d.out⟩
end
section
variable {w0 w : World} {yb : Nat} {o : Nat → Nat} {ps : List Pr} {bk : Bool → List Nat}
theorem zuv(h:zqU w0 yb o ps bk w)(hm:∀q,(bk q).length<=5000000000000):Calls P 51 #[.pointer (S ⟨yb,1,N⟩)] w λe w'=>e=.returned (.bool true)/\Below w.heap.size w w':=by
 obtain⟨vp,vv,O⟩:=h.ex;have D:=O.e1;have HE:∀q,Hid (∀i (L:i<(bk q).length),∃c B,vv q=.slice (S ⟨c,0,N⟩) (bk q).length B/\c<w.heap.size/\w.cell? ⟨c,i,N⟩=S (Jy (bk q)[i])):=λq=>z6 (λi L=>by
  have e3:=O.e3 q;rcases e3.2 with⟨e,R⟩|⟨ai,aq,ay,hv,_,hg,_⟩;·omega
  ·rw[hv];refine⟨ai,aq,rfl,za hg,?_⟩;rw[hv]at e3;have:=e3.cellAt (g:=ai) i (by omega);rw[this];simp[L])
 have HN:∀q,Hid (∀i (L:i<(bk q).length),zrB (bTS q) (bsz q) (bz q i) (λx=>o x=1/\w0.heap.size<=x) w (bk q)[i]):=λq=>z6 (h.ent q);have a2:=HE false;have ak:=HE true;have al:=HN false;have ar:=HN true;have az:=hm false;have aA:=hm true;obtain⟨aa,B,am⟩:=zl (O.e3 false);obtain⟨ab,F,an⟩:=zl (O.e3 true);rw[am]at D a2;rw[an]at D ak;have y:=za D;have y1:w.cell? ⟨yb,1,N⟩=S (.slice aa (bk false).length B):=z8 D 1;have y2:w.cell? ⟨yb,2,N⟩=S (.slice ab (bk true).length F):=z8 D 2;clear h D O HE HN hm am an;generalize bk false=l at *;generalize bk true=f at *;go_enter func51,ntmps51;go_wp2_with fail;go_loopg[3] l.length (λm v wr=>∃i:Nat,m=l.length-i/\v=I J i/\i<=l.length/\Below w.heap.size w wr);case atStart=>exact⟨0,by omega,rfl,by omega,Below.refl _ _⟩
 case round=>
  obtain⟨i,rfl,rfl,L,a⟩:=hrel;have R:=a.size;have aj:wr.cell? ⟨yb,1,N⟩=S (.slice aa l.length B):=by rw[a.cell (p:=⟨yb,1,N⟩) y];exact y1
  have Y:wr.cell? ⟨yb,2,N⟩=S (.slice ab f.length F):=by rw[a.cell (p:=⟨yb,2,N⟩) y];exact y2
  have Z:yb<wr.heap.size:=by omega
  have z:=z6 a;clear a;by_cases M:i<l.length
  ·have a9:(i:Int)<l.length:=by omega
   obtain⟨c,aw,af,K,H⟩:=a2.out i M;cases af;obtain⟨n,A,C,hn,u,G⟩:=(al.out i M).ex;have ae:=za u;have a0:=z6 u;have HA:=z6 G;clear u G;generalize l[i]=d at *;go_wp2_with fail;go_loopg[4] 4 (λm v wr=>∃k:Nat,m=4-k/\v=I J k/\k<=4/\Below w.heap.size w wr);case atStart=>exact⟨0,by omega,rfl,by omega,z.out⟩
   case round=>
    obtain⟨k,rfl,rfl,hk,a⟩:=hrel;have av:=a.size;have U:wr.cell? ⟨yb,1,N⟩=S (.slice (S ⟨c,0,N⟩) l.length B):=by rw[a.cell (p:=⟨yb,1,N⟩) y];exact y1
    have V:wr.cell? ⟨c,i,N⟩=S (Jy d):=by rw[a.cell (p:=⟨c,i,N⟩) K];exact H
    have X:yb<wr.heap.size:=by omega
    have W:c<wr.heap.size:=by omega
    have E:=z6 a;clear a aj Y Z R;by_cases a7:k<4
    ·have a8:(k:Int)<4:=by omega
     have ad:w.cell? ⟨d,k,N⟩=S (.slice (A k) (n+k) (C k)):=by
      rw[z8 a0.out];have a6:k=0\/k=1\/k=2\/k=3:=by omega
      rcases a6 with rfl|rfl|rfl|rfl<;>rfl
     go_wp2_with fail;go_loopg[5] (n+k) (λm v wr=>∃j:Nat,m=n+k-j/\v=I J j/\j<=n+k/\Below w.heap.size w wr);case atStart=>exact⟨0,by omega,rfl,by omega,E.out⟩
     case round=>
      obtain⟨j,rfl,rfl,hj,a⟩:=hrel;have ap:=a.size;have x1:wr.cell? ⟨yb,1,N⟩=S (.slice (S ⟨c,0,N⟩) l.length B):=by rw[a.cell (p:=⟨yb,1,N⟩) y];exact y1
      have x2:wr.cell? ⟨c,i,N⟩=S (Jy d):=by rw[a.cell (p:=⟨c,i,N⟩) K];exact H
      have x3:wr.cell? ⟨d,k,N⟩=S (.slice (A k) (n+k) (C k)):=by rw[a.cell (p:=⟨d,k,N⟩) ae];exact ad
      have xl:yb<wr.heap.size:=by omega
      have xg:c<wr.heap.size:=by omega
      have xn:d<wr.heap.size:=by omega
      by_cases a3:j<n+k
      ·have a4:(j:Int)<(n:Int)+k:=by omega
       have a5:(j:Int)<((n+k:Nat):Int):=by omega
       obtain⟨b,_,t,a1,r⟩:=HA.out k j a7 a3;have c0:wr.cell? ⟨b,j *4,N⟩=S (I J (-7070)):=by rw[a.cell (p:=⟨b,j *4,N⟩) t];exact r 0 (by decide)
       have c1:wr.cell? ⟨b,j *4+1,N⟩=S (I J i):=by rw[a.cell (p:=⟨b,j *4+1,N⟩) t];exact r 1 (by decide)
       have c2:wr.cell? ⟨b,j *4+2,N⟩=S (I J 0):=by rw[a.cell (p:=⟨b,j *4+2,N⟩) t];exact r 2 (by decide)
       have c3:wr.cell? ⟨b,j *4+3,N⟩=S (I J 0):=by rw[a.cell (p:=⟨b,j *4+3,N⟩) t];exact r 3 (by decide)
       have au:b<wr.heap.size:=by omega
       rw[a1]at x3;have s:=z6 a;clear a U V X W r;go_wp2_with fail;go_roundg (n+k-(j+1));case measure=>omega
       case rel=>exact⟨j+1,rfl,by go_num,by omega,s.out.alloc ap _⟩
      ·have a4:¬(j:Int)<(n:Int)+k:=by omega
       have a5:¬(j:Int)<((n+k:Nat):Int):=by omega
       have s:=z6 a;clear a U V X W;go_wp2_with fail;go_roundg (4-(k+1));case measure=>omega
       case rel=>exact⟨k+1,rfl,by go_num,by omega,s.out⟩
    ·have a8:¬(k:Int)<4:=by omega
     go_wp2_with fail;go_roundg (l.length-(i+1));case measure=>omega
     case rel=>exact⟨i+1,rfl,by go_num,by omega,E.out⟩
  ·have a9:¬(i:Int)<l.length:=by omega
   go_wp2_with fail;clear aj a2 al;go_loopg[7] f.length (λm v wr=>∃i:Nat,m=f.length-i/\v=I J i/\i<=f.length/\Below w.heap.size w wr);case atStart=>exact⟨0,by omega,rfl,by omega,z.out⟩
   case round=>
    clear z Y Z R;obtain⟨i,rfl,rfl,L,a⟩:=hrel;have R:=a.size;have Y:wr.cell? ⟨yb,2,N⟩=S (.slice ab f.length F):=by rw[a.cell (p:=⟨yb,2,N⟩) y];exact y2
    have Z:yb<wr.heap.size:=by omega
    have z:=z6 a;clear a;by_cases M:i<f.length
    ·have a9:(i:Int)<f.length:=by omega
     obtain⟨c,ax,af,K,H⟩:=ak.out i M;cases af;obtain⟨n,A,C,hn,u,G⟩:=(ar.out i M).ex;have ae:=za u;have a0:=z6 u;have HA:=z6 G;clear u G;generalize f[i]=d at *;have ao:=ztf i (by omega) wr;go_wp2_with fail;refine ao.mono ?_;rintro _ w2⟨rfl,ah⟩;replace ah:=ah.symm;subst ah;clear ao;go_wp2_with fail;go_loopg[9] 4 (λm v wr=>∃k:Nat,m=4-k/\v=I J k/\k<=4/\Below w.heap.size w wr);case atStart=>exact⟨0,by omega,rfl,by omega,z.out⟩
     case round=>
      obtain⟨k,rfl,rfl,hk,a⟩:=hrel;have av:=a.size;have U:wr.cell? ⟨yb,2,N⟩=S (.slice (S ⟨c,0,N⟩) f.length F):=by rw[a.cell (p:=⟨yb,2,N⟩) y];exact y2
      have V:wr.cell? ⟨c,i,N⟩=S (Jy d):=by rw[a.cell (p:=⟨c,i,N⟩) K];exact H
      have X:yb<wr.heap.size:=by omega
      have W:c<wr.heap.size:=by omega
      have E:=z6 a;clear a Y Z R;by_cases a7:k<4
      ·have a8:(k:Int)<4:=by omega
       have ad:w.cell? ⟨d,k,N⟩=S (.slice (A k) (n+k) (C k)):=by
        rw[z8 a0.out];have a6:k=0\/k=1\/k=2\/k=3:=by omega
        rcases a6 with rfl|rfl|rfl|rfl<;>rfl
       go_wp2_with fail;go_loopg[10] (n+k) (λm v wr=>∃j:Nat,m=n+k-j/\v=I J j/\j<=n+k/\Below w.heap.size w wr);case atStart=>exact⟨0,by omega,rfl,by omega,E.out⟩
       case round=>
        obtain⟨j,rfl,rfl,hj,a⟩:=hrel;have ap:=a.size;have x1:wr.cell? ⟨yb,2,N⟩=S (.slice (S ⟨c,0,N⟩) f.length F):=by rw[a.cell (p:=⟨yb,2,N⟩) y];exact y2
        have x2:wr.cell? ⟨c,i,N⟩=S (Jy d):=by rw[a.cell (p:=⟨c,i,N⟩) K];exact H
        have x3:wr.cell? ⟨d,k,N⟩=S (.slice (A k) (n+k) (C k)):=by rw[a.cell (p:=⟨d,k,N⟩) ae];exact ad
        have xl:yb<wr.heap.size:=by omega
        have xg:c<wr.heap.size:=by omega
        have xn:d<wr.heap.size:=by omega
        by_cases a3:j<n+k
        ·have a4:(j:Int)<(n:Int)+k:=by omega
         have a5:(j:Int)<((n+k:Nat):Int):=by omega
         obtain⟨b,_,t,a1,r⟩:=HA.out k j a7 a3;have c0:wr.cell? ⟨b,j *2,N⟩=S (.string (mkB i)):=by rw[a.cell (p:=⟨b,j *2,N⟩) t];exact r 0 (by decide)
         have c1:wr.cell? ⟨b,j *2+1,N⟩=S (.bool false):=by rw[a.cell (p:=⟨b,j *2+1,N⟩) t];exact r 1 (by decide)
         have au:b<wr.heap.size:=by omega
         rw[a1]at x3;have s:=z6 a;clear a U V X W r;go_wp2_with fail;go_roundg (n+k-(j+1));case measure=>omega
         case rel=>exact⟨j+1,rfl,by go_num,by omega,s.out⟩
        ·have a4:¬(j:Int)<(n:Int)+k:=by omega
         have a5:¬(j:Int)<((n+k:Nat):Int):=by omega
         have s:=z6 a;clear a U V X W;go_wp2_with fail;go_roundg (4-(k+1));case measure=>omega
         case rel=>exact⟨k+1,rfl,by go_num,by omega,s.out⟩
      ·have a8:¬(k:Int)<4:=by omega
       go_wp2_with fail;go_roundg (f.length-(i+1));case measure=>omega
       case rel=>exact⟨i+1,rfl,by go_num,by omega,E.out⟩
    ·have a9:¬(i:Int)<f.length:=by omega
     go_wp2_with fail;go_ret;exact⟨rfl,z.out⟩
end
end
section
open Go.ChangeShapes Go.WideShapes Go.ChangeAt Go.RowKit Go.Deep
def Vb(w:World)(a:Option Addr)(d:Nat):Prop:=∀k,k<d->∃(b f:Nat) (c r:Int) (t s:ByteArray),a=S ⟨b,f,N⟩/\b<w.heap.size/\w.cell? ⟨b,f+k *4,N⟩=S (I J c)/\w.cell? ⟨b,f+k *4+1,N⟩=S (I J r)/\w.cell? ⟨b,f+k *4+2,N⟩=S (.string t)/\w.cell? ⟨b,f+k *4+3,N⟩=S (.string s)/\(-9223372036854775808<=c/\c<=9223372036854775807)/\(-9223372036854775808<=r/\r<=9223372036854775807)/\t.size<=maxLen/\s.size<=281474976710656
theorem zdj{H:Type}{P:Program}{e:TypeId}{d:DataW H}{n:Nat}(a:n∈d.weights P e):∀{l:List (DataW H)},d∈l->n∈DataW.weightsAll P e l
 |[],h=>by cases h
 |x::l,h=>by
  simp only[DataW.weightsAll,List.mem_append];rcases List.mem_cons.1 h with rfl|h;·exact .inl a
  ·exact .inr (zdj a h)
theorem zh4:prog.bytesOf 100=48:=by kernel_rfl
theorem zbY:prog.cellsOf 100=4:=by kernel_rfl
theorem zh1{H:Type}{a4:TypeId×Value->H}{W:World}{a5:Nat}{z:Option Addr}{u a1:Nat}{x:DataW H×List MemPlace}(h:DataW.trod a4 P W 0 (λ_=>true) true a5 38 [.slice z u a1]=S x){ts:List TypeId}{ds:List (DataW H)}(hw:(DataW.weightsEach P (38::ts) (x.1::ds)).all (· <=reachBytes)=true):Vb W z u/\u<=2932031007402:=by
 rcases open_slice underlying38 h with⟨i,_⟩|⟨a,ah,af,m,n,D,Pl,i,_,hl,hm,U,hx,O⟩;·simp at i;obtain⟨rfl,rfl,rfl⟩:=i;exact⟨λk R=>by omega,by omega⟩
 ·simp at i;obtain⟨rfl,rfl,rfl⟩:=i;simp only[if_true]at U;subst U;have o:∀n∈DataW.weights P 38 x.1,n<=reachBytes:=λn y=>by have:=List.all_eq_true.1 hw n (by simp only[DataW.weightsEach,List.mem_append];exact .inl y);simpa using this
  rw[hx]at o;simp only[DataW.weights,underlying38,List.length_map,List.length_range,zh4,List.mem_cons,List.mem_append]at o;constructor
  ·intro k R;have V:a.spot=N:=by
    obtain⟨a3,g,_⟩:=O 0 (by omega);rw[zbY]at g;obtain⟨_,w,e⟩:=World.cells?_some g;have c:=e 0 (by omega);match a3,w with
    |[Y,v1,v2,v3],_=>
     have:W.cell? a=S Y:=by simpa[Addr.add]using c
     exact World.cell?_spot this
   obtain⟨a2,g,h2⟩:=O k (by omega);rw[zbY]at g;obtain⟨_,w,e⟩:=World.cells?_some g;obtain⟨xs,q,hq,a9,_,a8,p⟩:=DataW.trod_struct underlying100 h2;match xs,a8,a2,w with
   |[y0,y1,y2,y3],_,[Y,v1,v2,v3],_=>
    have A:=p 0 _ rfl;have B:=p 1 _ rfl;have E:=p 2 _ rfl;have g3:=p 3 _ rfl;have Z:prog.cellsOf 3=1:=by kernel_rfl
    have c2:prog.cellsOf 9=1:=by kernel_rfl
    simp[Z,c2]at A B E g3;have c:=e 0 (by omega);have j:=e 1 (by omega);have l:=e 2 (by omega);have v:=e 3 (by omega);rw[add_add]at c j l v;obtain⟨b,f,sp⟩:=a;simp only at V;subst V;rw[add_plain]at c j l v;obtain⟨X,F,aa,w0⟩:=DataW.trod_int underlying3 A;obtain⟨r,G,ab,w1⟩:=DataW.trod_int underlying3 B;obtain⟨t,K,ad,w2⟩:=DataW.trod_string underlying9 E;obtain⟨s,L,ae,w3⟩:=DataW.trod_string underlying9 g3;simp only[List.cons.injEq,and_true]at F G K L;subst F G K L aa ab ad ae;have hD:D k=.agg [.lit (.int J X),.lit (.int J r),.lit (.string t.data.toList),.lit (.string s.data.toList)]:=by simpa using(Prod.mk.inj a9).1
    have a6:D k∈(List.range u).map D:=List.mem_map.2 ⟨k,List.mem_range.2 R,rfl⟩;have a7:s.data.toList.length<=reachBytes:=o _ (.inr (.inl (zdj (d:=D k) (by rw[hD];simp[DataW.weights,DataW.weightsEach,underlying100]) a6)));have M:∀n:Int,(Lit.int J n).wf=true-> -9223372036854775808<=n/\n<=9223372036854775807:=by
     intro n y;have ag:IntKind.i64.min<=n/\n<=IntKind.i64.max:=by simpa[Lit.wf]using y
     have j:IntKind.i64.min= -9223372036854775808:=by decide
     have l:IntKind.i64.max=9223372036854775807:=by decide
     constructor<;>omega
    refine⟨b,f,X,r,t,s,rfl,World.block_lt_of_cell? W _ c,by simpa using c,by simpa[Nat.add_assoc]using j,by simpa[Nat.add_assoc]using l,by simpa[Nat.add_assoc]using v,M _ w0,M _ w1,w2,?_⟩;have:s.size=s.data.toList.length:=rfl;unfold reachBytes at a7;omega
  ·have:=o _ (.inl rfl);unfold reachBytes at this;omega
end
section
open Go.RowKit Go.Lib
attribute [local go_sem ↓] Go.wp_at_zero Go.wp_at_succ
theorem zqU.start(w:World):zqU w w.heap.size (λ_=>0) [] (λ_=>[]) (w.alloc (plO (.slice N 0 0) (.slice N 0 0) (.slice N 0 0))):=by refine⟨zc _ _,⟨.slice N 0 0,λ_=>.slice N 0 0,zk _ _,World.ownsRow_nil _ _ _ _,λ_=>World.ownsRow_nil _ _ _ _,λx a=>by simp[Value.ownBlock]at a,λ_ x a=>by simp[Value.ownBlock]at a⟩,rfl,Nat.le_refl _,λq i h=>by simp at h,λi h=>by simp at h⟩
def zrp(c:World)(d i:Nat)(w:World):Prop:=∃o b a,zqU c d o b a w/\b.length<=i+1/\∀q,(a q).length<=i
theorem zrp.below{a w w':World}{b i:Nat}(h:zrp a b i w)(g:Below w.heap.size w w'):zrp a b i w':=by obtain⟨o,j,c,d,e,f⟩:=h;exact⟨o,j,c,d.below g,e,f⟩
theorem zrp.le{a w:World}{b i j:Nat}(h:zrp a b i w)(k:i<=j):zrp a b j w:=by obtain⟨o,f,c,d,g,e⟩:=h;exact⟨o,f,c,d,by omega,λq=>by have:=e q;omega⟩
theorem ztg{b w:World}{c i:Nat}(h:zrp b c i w)(k:QD b)(B:i<=4000000000000)(a r:Int)(t s:ByteArray)(l:1<=a/\a<=10)(m:i64 r)(p:t.size<=maxLen)(n:s.size<=281474976710656):Calls P 50 #[z9 c,.agg #[I J a,I J r,.string t,.string s]] w λe f=>e=.returned (.bool true)/\zrp b c (i+1) f:=by obtain⟨o,E,z,j,A,d⟩:=h;refine(zup j k a r t s l m p n (by omega) (λq=>by have:=d q;omega)).mono ?_;rintro e f⟨rfl,u,y,g,v,D,x⟩;exact⟨rfl,u,y,g,v,by omega,λq=>by have:=d q;have:=x q;omega⟩
theorem ztX{f w:World}{a i:Nat}(h:zrp f a i w)(m:i<=4000000000000):Calls P 51 #[.pointer (S ⟨a,1,N⟩)] w λe d=>e=.returned (.bool true)/\zrp f a i d:=by obtain⟨o,l,g,b,j,c⟩:=h;refine(zuv b (λq=>by have:=c q;omega)).mono ?_;rintro e d⟨rfl,k⟩;exact⟨rfl,o,l,g,b.below k,j,c⟩
theorem zrp.bel{a w:World}{c i:Nat}(h:zrp a c i w):Below a.heap.size a w:=by obtain⟨o,e,d,b,_⟩:=h;exact b.bel
theorem zrp.ylt{c w:World}{a i:Nat}(h:zrp c a i w):a<w.heap.size:=by obtain⟨o,f,d,b,_⟩:=h;obtain⟨_,_,e⟩:=b.ex;exact zd e.e1
theorem ztW(w:World)(a:Option Addr)(d a0 l:Nat)(H:Vb w a d)(a9:d<=2932031007402)(a4:l<w.heap.size)(G:∀j:Nat,j<10->w.cell? ⟨l,j,N⟩=S (I J (j+1)))(y:QD w):Calls P 22 #[.slice a d a0,.slice (S ⟨l,0,N⟩) 10 10] w λe A=>e=.returned (.bool true)/\Below w.heap.size w A:=by
 have D:=z6 (ztg (i:=0) ⟨_,_,_,zqU.start w,by simp,by simp⟩ y (by omega) 1 0 zf5 ⟨#[]⟩ (by omega) (by unfold i64;omega) (by decide) (by decide));have X:=z6 G;have Y:=z6 H;have V:=z6 y;clear H y G;go_enter func22,ntmps22;go_wp2_with fail;refine D.out.mono ?_;rintro _ w1⟨rfl,K⟩;have B:=z6 K;clear D K;go_wp2_with fail;go_loopg[6,7] d (λm v6 v7 wr=>∃b:Nat,m=d-b/\v6=.bool true/\v7=I J b/\b<=d/\Hid (zrp w w.heap.size (b+1) wr));case atStart=>exact⟨0,by omega,rfl,rfl,by omega,B⟩
 case round=>
  obtain⟨b,rfl,rfl,rfl,hi,o⟩:=hrel;have x:=o.out.bel;have ad:=o.out.ylt;have hz:=x.size;have h:=z6 x;clear x B;by_cases a5:b<d
  ·have a6:(b:Int)<d:=by omega
   obtain⟨f,g,c,r,t,s,rfl,u,M,O,R,U,a7,hr,ht,hs⟩:=Y.out b a5;have aa:f<wr.heap.size:=by omega
   have Z:wr.cell? ⟨f,g+b *4,N⟩=S (I J c):=by rw[h.out.cell (p:=⟨f,g+b *4,N⟩) u];exact M
   have c1:wr.cell? ⟨f,g+b *4+1,N⟩=S (I J r):=by rw[h.out.cell (p:=⟨f,g+b *4+1,N⟩) u];exact O
   have c2:wr.cell? ⟨f,g+b *4+2,N⟩=S (.string t):=by rw[h.out.cell (p:=⟨f,g+b *4+2,N⟩) u];exact R
   have c3:wr.cell? ⟨f,g+b *4+3,N⟩=S (.string s):=by rw[h.out.cell (p:=⟨f,g+b *4+3,N⟩) u];exact U
   have a8:l<wr.heap.size:=by omega
   clear M O R U;go_wp2_with fail;go_loopg[8,9] 10 (λm v8 v9 wx=>∃j q:Nat,m=10-j/\v8=.bool (decide (1<=c/\c<=j))/\v9=I J j/\j<=10/\wx=wr.drewN q);case atStart=>exact⟨0,0,by omega,by simp;omega,rfl,by omega,rfl⟩
   case round=>
    obtain⟨j,q,rfl,rfl,rfl,hj,rfl⟩:=hrel;by_cases a2:j<10
    ·have a3:(j:Int)<10:=by omega
     have kj:wr.cell? ⟨l,j,N⟩=S (I J (j+1)):=by rw[h.out.cell (p:=⟨l,j,N⟩) a4];exact X.out j a2
     by_cases k:1<=c/\c<=j
     ·simp only[k,and_self,decide_true];go_wp2_with fail;go_quiet(fail);go_wp2_with fail;go_roundg (10-(j+1));case measure=>omega
      case rel=>exact⟨j+1,_,rfl,by congr 1;simp;omega,by go_num,by omega,rfl⟩
     ·have n:decide (1<=c/\c<=(j:Int))=false:=by simpa using k
      simp only[n];go_wp2_with fail;go_quiet(fail);go_wp2_with fail;go_roundg (10-(j+1));case measure=>omega
      case rel=>exact⟨j+1,_,rfl,by congr 1;rw[Bool.eq_iff_iff];simp only[beq_iff_eq,decide_eq_true_eq];omega,by go_num,by omega,rfl⟩
    ·have a3:¬(j:Int)<10:=by omega
     have a1:j=10:=by omega
     subst a1;by_cases k:1<=c/\c<=10
     ·have n:decide (1<=c/\c<=((10:Nat):Int))=true:=by simpa using k
      simp only[n];have E:Hid (∀W:World,Below wr.heap.size wr W->Calls P 50 #[z9 w.heap.size,.agg #[I J c,I J r,.string t,.string s]] W λe A=>e=.returned (.bool true)/\zrp w w.heap.size (b+1+1) A):=z6 (λW hW=>ztg (o.out.below hW) V.out (by omega) c r t s k (by unfold i64;omega) ht hs);go_wp2_with fail;refine(E.out _ (below_drewN (Below.refl _ _) _)).mono ?_;rintro _ w2⟨rfl,z⟩;have ab:=z.ylt;have F:=z6 (ztX z (by omega));clear E z Z c1 c2 c3;go_wp2_with fail;refine F.out.mono ?_;rintro _ w3⟨rfl,L⟩;have v:=z6 L;clear F L;go_wp2_with fail;go_roundg (d-(b+1));case measure=>omega
      case rel=>exact⟨b+1,rfl,rfl,by go_num,by omega,v⟩
     ·have n:decide (1<=c/\c<=((10:Nat):Int))=false:=by simpa using k
      simp only[n];have v:Hid (zrp w w.heap.size (b+1+1) (wr.drewN q)):=z6 ((o.out.below (below_drewN (Below.refl _ _) _)).le (by omega));go_wp2_with fail;go_roundg (d-(b+1));case measure=>omega
      case rel=>exact⟨b+1,rfl,rfl,by go_num,by omega,v⟩
  ·have a6:¬(b:Int)<d:=by omega
   go_wp2_with fail;go_ret;exact⟨rfl,h.out⟩
theorem ztz(w:World)(a:Option Addr)(d l:Nat)(m:Vb w a d)(G:d<=2932031007402)(u:QD w):Calls P 9 #[.slice a d l] w λe K=>e=.returned (.bool true)/\Below w.heap.size w K:=by
 have c:=zc w (.cells #[I J 1,I J 2,I J 3,I J 4,I J 5,I J 6,I J 7,I J 8,I J 9,I J 10] 3);have q:=zk w (.cells #[I J 1,I J 2,I J 3,I J 4,I J 5,I J 6,I J 7,I J 8,I J 9,I J 10] 3);have n:Vb (w.alloc (.cells #[I J 1,I J 2,I J 3,I J 4,I J 5,I J 6,I J 7,I J 8,I J 9,I J 10] 3)) a d:=λk F=>by obtain⟨b,f,H,r,t,s,x,g,y,z,A,B,D⟩:=m k F;exact⟨b,f,H,r,t,s,x,by simp;omega,by rw[c.cell (p:=⟨b,f+k *4,N⟩) g];exact y,by rw[c.cell (p:=⟨b,f+k *4+1,N⟩) g];exact z,by rw[c.cell (p:=⟨b,f+k *4+2,N⟩) g];exact A,by rw[c.cell (p:=⟨b,f+k *4+3,N⟩) g];exact B,D⟩
 have i:=z6 (ztW _ a d l w.heap.size n G (by simp) (λj L=>by
  rw[z8 q];have E:j=0\/j=1\/j=2\/j=3\/j=4\/j=5\/j=6\/j=7\/j=8\/j=9:=by omega
  rcases E with rfl|rfl|rfl|rfl|rfl|rfl|rfl|rfl|rfl|rfl<;>rfl) (u.below c))
 have h:=z6 c;clear c q m n u;go_enter func9,ntmps9;go_wp2_with fail;refine i.out.mono ?_;rintro _ M⟨rfl,o⟩;have v:=z6 (h.out.trans (o.mono h.out.size));clear i o;go_wp2_with fail;go_ret;exact⟨rfl,v.out⟩
end
end Go.Proofs.YtiganlkabilblaaGreatDoor
