import Derived.Test.YtiganlkabilblaaGreatDoorV37
import Derived.Test.YtiganlkabilblaaGreatDoorV16
import Derived.Test.YtiganlkabilblaaGreatDoorV15
import Derived.Test.YtiganlkabilblaaGreatDoorV35
set_option linter.all false
set_option maxHeartbeats 64000000
set_option maxRecDepth 100000
namespace Go.Proofs.YtiganlkabilblaaGreatDoor
open Tryz
open Tryz renaming prog->P
open Option renaming some->S,none->N
open Value renaming int->I
open IntKind renaming i64->J
section
open Go.RowKit
attribute [local go_sem ↓] Go.wp_at_zero Go.wp_at_succ
structure ztr(w':World)(B:Nat)(g:List ze)(E:List Bool)(vx vr:Value)(gb lb:Nat)(ps:List (RE×Value×Value))(rs:List (z7×Nat))(l:List Bool):Prop where
 mem:GM w' B gb vx vr (ps.map (ZY (zj rs))) rs
 row:w'.heap[lb]?=some (zH l)
 len:l.length=ps.length
 fits:K5 ps rs
 den:zV (zK ps) rs g
 lp:LP (zK ps) (zj rs) E l
 eof:E=Eof (Zp rs) l
 rle:rs.length<=20
 rpos:0<rs.length
 ple:ps.length<=10000
def zdu(t:List UInt8)(w:World)(e:Ending)(i:World):Prop:=Below w.heap.size w i/\∃d,Zo t d/\match d with| .error (b,p)=>b≠0/\∃(q:Option Addr) (s r:Nat) (k:Option Addr) (n m:Nat),e=.returned (.tuple #[.agg #[.slice q s r,.slice k n m],.slice N 0 0,I J b,I J p])| .ok (g,E)=>∃h f j c a o l,e=.returned (.tuple #[.agg #[h,f],.slice (S ⟨c,0,N⟩) a.length a.length,I J 0,I J 0])/\ztr i w.heap.size g E h f j c a o l
theorem GM.setLow{w:World}{B a:Nat}{i g:Value}{e:List (RE×Value×Value)}{f:List (z7×Nat)}(h:GM w B a i g e f){b:Nat}(c:b<B)(j:a≠b)(o:Nat)(u:Value):GM (w.setCell ⟨b,o,N⟩ u) B a i g e f:=⟨by rw[Below.heap_setCell _ _ _ _ (by show a≠b;exact j)];exact h.blk,ZL h.ex c,ZL h.ru c,λp d=>ZL (h.items p d) c,λp d=>ZL (h.parts p d) c⟩
theorem GM.mono{w:World}{B B' c:Nat}{g f:Value}{d:List (RE×Value×Value)}{e:List (z7×Nat)}(h:GM w B c g f d e)(a:B'<=B):GM w B' c g f d e:=⟨h.blk,Zn h.ex a,Zn h.ru a,λp b=>Zn (h.items p b) a,λp b=>Zn (h.parts p b) a⟩
theorem Vv{b:List (RE×Value×Value)}{a:List (z7×Nat)}{g:List ze}(h:zV (zK b) a g){i:Nat}(d:i<a.length)(c:i<g.length):zw (zK b) a[i].2 (.group g[i].choice):=by have:=((zV.get a g h).2 i c).2;rw[List.getD_eq_getElem?_getD,List.getElem?_map,List.getElem?_eq_getElem d]at this;exact this
def Kh(a:List z7)(E:List Bool)(g:List ze)(k:Nat):List Nat:=(ZC (Eb a E) ((g[k]?.map (·.choice)).getD [])).map (idx0 a)
theorem zae{a:List z7}{E:List Bool}{g:List ze}{k:Nat}(h:k<g.length):Kh a E g k=(ZC (Eb a E) g[k].choice).map (idx0 a):=by unfold Kh;rw[List.getElem?_eq_getElem h];rfl
structure Ju(w:World)(B gb:Nat)(vx vr:Value)(ps:List (RE×Value×Value))(rs:List (z7×Nat))(wr:World):Prop where
 res:wr.heap[w.heap.size]?=some JZ
 mem:GM wr B gb vx vr (ps.map (ZY (zj rs))) rs
 below:Below w.heap.size w wr
theorem Ju.go{w:World}{B b:Nat}{f e:Value}{c:List (RE×Value×Value)}{d:List (z7×Nat)}{wr g:World}(h:Ju w B b f e c d wr)(a:Below wr.heap.size wr g):Ju w B b f e c d g:=⟨by rw[a.block _ (za h.res)];exact h.res,h.mem.below a,h.below.trans (a.mono h.below.size)⟩
theorem Ju.drewN{w:World}{B a:Nat}{e d:Value}{b:List (RE×Value×Value)}{c:List (z7×Nat)}{wr:World}(h:Ju w B a e d b c wr)(q:Nat):Ju w B a e d b c (wr.drewN q):=h.go (below_drewN (Below.refl _ _) q)
theorem zco(s:ByteArray)(w:World)(hs:s.size<=maxLen)(r:Except (Nat×Nat) (List ze))(hP:Zs s.data.toList r):Calls P 39 #[.string s] w λe w'=>zdu s.data.toList w e w':=by
 have bg:=zi7 s (w.alloc JZ) hs;have bL:s.data.toList.length=s.size:=rfl;go_enter func39,ntmps39;go_wp2_with fail;refine bg.mono ?_;rintro e D⟨af,Z⟩;have bE:=af.size;simp at bE;have ag:D.heap[w.heap.size]?=S JZ:=by rw[af.block _ (by simp)];exact zk _ _
 have au:Hid (Below w.heap.size w D):=(zc _ _).trans (af.mono (by simp));clear bg;cases r with
 |error x=>
  have bk:=zce hP;have bq:e=.returned (.tuple #[ZP,I J x.1,I J x.2]):=by
   rcases zcd hP with⟨h1,rfl⟩|⟨h1,U⟩;·rw[if_pos (by omega)]at Z;exact Z
   ·rw[if_neg (by omega),U]at Z;exact Z
  subst bq;obtain⟨er,a8⟩:=x;simp only[]at bk;have bM:¬(er:Int)=0:=by omega
  have rq:=z8 ag;have rf:=zi ag;have bw:w.heap.size<D.heap.size:=by omega
  have HP:=z6 hP;clear Z af hP ag;simp only[ZP];go_wp2_with fail;refine bodyPost_ret (v:=.tuple #[.agg #[.slice N 0 0,.slice N 0 0],.slice N 0 0,I J er,I J a8]) (by simp[results,results39,go_sem,rq,bw];done) rfl ⟨?_,.error (er,a8),.text HP.out,bk,_,_,_,_,_,_,rfl⟩;exact((au.out.setCell (p:=⟨w.heap.size,0,N⟩) (Nat.le_refl _) _).setCell (p:=⟨w.heap.size,1,N⟩) (Nat.le_refl _) _).alloc (by simp;omega) _
 |ok g=>
  obtain⟨hl,S',bj,a6⟩:=zcf hP;rw[if_neg (by omega),bj]at Z;obtain⟨M,bN,rfl,a9,aM⟩:=Z;obtain⟨K,L,aO⟩:=zl a9.ex;obtain⟨ra,H,aN⟩:=zl a9.ru;have aa:S'.xs=M.xs.map (·.1):=by rw[<-aM];rfl
  have aq:S'.rs=M.rs:=by rw[<-aM];rfl
  obtain⟨c,ao⟩:∃c,c=M.xs:=⟨_,rfl⟩;obtain⟨a,ap⟩:∃a,a=M.rs:=⟨_,rfl⟩;rw[<-ao]at aa;rw[<-ap]at aq;have al:zV (zK c) a g:=by have:=a6.den;rw[aa,aq]at this;exact this
  have aH:K5 c a:=by
   refine⟨λa8 hp=> ?_,λx hx=> ?_⟩;·have:=a6.wx.ex a8.1 (by rw[aa];exact List.mem_map_of_mem hp);rw[aa,List.length_map]at this;exact this
   ·have:=a6.bd x (by rw[aq];exact hx);rw[aa,List.length_map]at this;exact this
  have bD:c.length<=10000:=by have:=a6.len;rw[aa,List.length_map]at this;exact this
  have am:a.length=g.length:=(zV.get a g al).1;have aL:a.length<=20:=by rw[am];exact a6.le
  have ae:0<a.length:=by rw[am];exact List.length_pos_iff.2 a6.ne
  have be:0<c.length:=by have:=aH.ru a[0] (List.getElem_mem ae);omega
  have bb:zj a=zg g:=zV.names a g al;have bc:=a6.nc;have b5:GM (D.alloc (YB (.slice K c.length L) (.slice ra a.length H))) (w.heap.size+1) D.heap.size (.slice K c.length L) (.slice ra a.length H) c a:=by have b8:=a9.ex;have bi:=a9.ru;rw[aO]at b8;rw[aN]at bi;rw[ao,ap];exact⟨zk _ _,(Zn b8 (by simp)).alloc _,(Zn bi (by simp)).alloc _,λa8 hp=>(Zn (a9.items a8 hp) (by simp)).alloc _,λa8 hp=>(Zn (a9.parts a8 hp).1 (by simp)).alloc _⟩
  have a3:=zhY _ _ _ _ _ c a b5 be ae aL (by omega);rw[aO,aN, <-ao, <-ap];have bf:(D.alloc (YB (.slice K c.length L) (.slice ra a.length H))).heap[w.heap.size]?=S JZ:=by rw[zm _ _ (by omega)];exact ag
  have av:Hid (Below w.heap.size w (D.alloc (YB (.slice K c.length L) (.slice ra a.length H)))):=au.out.alloc (by omega) _;have aB:=z6 bf;have HP:=z6 hP;have ab:=z6 al;have ah:=z6 aH;have F:=z6 bb;have aV:=z6 bc;have X:=z6 am;clear hP a9 aM a6 bj aO aN aa aq ao ap al aH bb bc b5 ag bf af au am hl;go_wp2_with fail;refine a3.mono ?_;rintro _ w3⟨rfl,b6,aG⟩;have aj:Hid (Ju w (w.heap.size+1) D.heap.size (.slice K c.length L) (.slice ra a.length H) c a w3):=by refine⟨by rw[aG.block _ (by omega)];exact aB.out,b6,av.out.trans (aG.mono (by omega))⟩
  clear a3 b6 aG;obtain⟨O,rfl⟩:∃O,ra=S ⟨O,0,N⟩:=by obtain⟨O,bO,h1,_⟩:=aj.out.mem.ruAt ae;cases h1;exact⟨O,rfl⟩
  go_wp2_with fail;go_loopg[9] a.length (λm a5 wr=>∃i:Nat,m=a.length-i/\a5=I J i/\i<=a.length/\Hid (Ju w (w.heap.size+1) D.heap.size (.slice K c.length L) (.slice (S ⟨O,0,N⟩) a.length H) c a wr)/\Hid (∀t,t<i->Jp (zg g) t=false));case atStart=>exact⟨0,by omega,rfl,by omega,aj,λt d=>by omega⟩
  case round=>
   obtain⟨i,rfl,rfl,hi,z,HT⟩:=hrel;have q:=z8 z.out.mem.blk;have b9:=z.out.mem.lt;by_cases an:i<a.length
   ·have aJ:(i:Int)<a.length:=by omega
    clear aj av aB;go_wp2_with fail;go_loopg[10] i (λm a5 wr=>∃k:Nat,m=i-k/\a5=I J k/\k<=i/\Hid (Ju w (w.heap.size+1) D.heap.size (.slice K c.length L) (.slice (S ⟨O,0,N⟩) a.length H) c a wr)/\Hid (∀t (h:t<a.length),t<k->a[t].1≠a[i].1));case atStart=>exact⟨0,by omega,rfl,by omega,z,λt _ d=>by omega⟩
    case round=>
     obtain⟨k,rfl,rfl,hk,o,b1⟩:=hrel;have q2:=z8 o.out.mem.blk;have bK:(zg g).length=a.length:=by rw[<-F.out];simp
     by_cases bu:k<i
     ·have bv:(k:Int)<i:=by omega
      have bI:(k:Int)<a.length:=by omega
      have bt:k<a.length:=by omega
      obtain⟨d0,_⟩:=o.out.mem.ruCells k bt;obtain⟨d1,_⟩:=o.out.mem.ruCells i an;by_cases a3:a[k].1=a[i].1
      ·have bC:(a[k].1==a[i].1)=true:=by simpa using a3
       have ar:Jp (zg g) i=true:=by refine(zdh (by omega)).2 ⟨k,bu,?_⟩;simp only[<-F.out,List.getElem_map];exact a3
       have rq:=z8 o.out.res;have rf:=zi o.out.res;have rl:=za o.out.res;have a1:Hid (Qh g (.error (5,i))):=.twice ⟨by omega,ar,HT.out⟩;clear ar a3;go_wp2_with fail;go_quiet(fail);go_wp2_with fail;refine bodyPost_ret (v:=.tuple #[.agg #[.slice K c.length L,.slice (S ⟨O,0,N⟩) a.length H],.slice N 0 0,I J 5,I J i]) (by simp[results,results39,go_sem,rq,rl];done) rfl ⟨?_,.error (5,i),.rules HP.out a1.out,by simp,_,_,_,_,_,_,rfl⟩;exact((below_drewN o.out.below _).setCell (p:=⟨w.heap.size,0,N⟩) (Nat.le_refl _) _).setCell (p:=⟨w.heap.size,1,N⟩) (Nat.le_refl _) _
      ·have bC:(a[k].1==a[i].1)=false:=by simpa using a3
       have bl:Hid (∀t (h:t<a.length),t<k+1->a[t].1≠a[i].1):=by
        intro t h d;by_cases a4:t=k;·subst a4;exact a3
        ·exact b1.out t h (by omega)
       clear a3;go_wp2_with fail;go_quiet(fail);go_wp2_with fail;go_roundg (i-(k+1));case measure=>omega
       case rel=>exact⟨k+1,rfl,by go_num,by omega,o.out.drewN _,bl⟩
     ·have bv:¬(k:Int)<i:=by omega
      have bm:Hid (∀t,t<i+1->Jp (zg g) t=false):=by
       intro t d;by_cases a4:t=i
       ·subst a4;cases ar:Jp (zg g) t with
        |false=>rfl|true=>obtain⟨x,hx,U⟩:=(zdh (by omega)).1 ar;simp only[<-F.out,List.getElem_map]at U;exact absurd U (b1.out x (by omega) (by omega))
       ·exact HT.out t (by omega)
      go_wp2_with fail;go_roundg (a.length-(i+1));case measure=>omega
      case rel=>exact⟨i+1,rfl,by go_num,by omega,o,bm⟩
   ·have aJ:¬(i:Int)<a.length:=by omega
    have ai:Hid (JG (zg g) N):=by
     intro t d;refine HT.out t ?_;have:(zg g).length=a.length:=by rw[<-F.out];simp
     omega
    have b7:=zhP wr _ _ _ _ c a g z.out.mem ah.out be ae (by omega) ab.out;have aX:=z6 z.out.res;have aw:=z6 z.out.below;have aK:=za z.out.res;clear z aj av aB HT;go_wp2_with fail;refine b7.mono ?_;rintro _ w5⟨rfl,l,a2,b4⟩;obtain⟨G,aI⟩:∃G,G=wr.heap.size:=⟨_,rfl⟩;rw[<-aI]at a2|-;have bJ:w.heap.size<G:=by rw[aI];exact aK
    have bh:w5.heap[w.heap.size]?=S JZ:=by rw[a2.below.block _ aK];exact aX.out
    have aS:Hid (Ju w (w.heap.size+1) D.heap.size (.slice K c.length L) (.slice (S ⟨O,0,N⟩) a.length H) c a w5):=⟨bh,a2.mem,aw.out.trans (a2.below.mono aw.out.size)⟩;have aZ:=z6 a2.row;have aT:=z6 a2.len;have aR:=z6 a2.fnd;have aQ:=z6 b4;have aC:=λu=>z6 (ziB (w.heap.size+1) D.heap.size G (.slice K c.length L) (.slice (S ⟨O,0,N⟩) a.length H) c a l u ah.out a2.len);clear b7 a2 b4 bh aX aw aK aI;go_wp2_with fail;go_loopg[12] a.length (λm a5 wr=>∃i:Nat,m=a.length-i/\a5=I J i/\i<=a.length/\Hid (Ju w (w.heap.size+1) D.heap.size (.slice K c.length L) (.slice (S ⟨O,0,N⟩) a.length H) c a wr/\wr.heap[G]?=S (zH l))/\Hid (∀t (h:t<g.length),t<i->zx (zv (zj a)) g[t].choice=false));case atStart=>exact⟨0,by omega,rfl,by omega,⟨aS.out,aZ.out⟩,λt _ d=>by omega⟩
    case round=>
     obtain⟨i,rfl,rfl,hi,z,HU⟩:=hrel;have q:=z8 z.out.1.mem.blk;have b9:=z.out.1.mem.lt;clear aS aZ;by_cases an:i<a.length
     ·have aJ:(i:Int)<a.length:=by omega
      have a7:i<g.length:=by have:=X.out;omega
      obtain⟨_,d1⟩:=z.out.1.mem.ruCells i an;have B:Calls P 67 #[.pointer (S ⟨D.heap.size,0,N⟩),I J a[i].2,.slice (S ⟨G,0,N⟩) c.length c.length,.bool true] wr λe w'=>e=.returned (.bool (zx (zv (zj a)) g[i].choice))/\Below wr.heap.size wr w':=by have:=wiP (E:=[]) (λh=>by cases h) (aC true).out (.group g[i].choice) (Vv ab.out an a7) (λh=>by cases h);simp only[J9,Bool.false_or,Zi,HT,if_true]at this;exact this wr z.out.1.mem z.out.2
      cases n:zx (zv (zj a)) g[i].choice with
      |true=>rw[n]at B;have a1:Hid (Qh g (.error (6,i))):=.unknown ai.out ⟨a7,by rw[<-F.out];exact n,λt d U=>by rw[<-F.out];exact HU.out t d U⟩;clear n;go_wp2_with fail;refine B.mono ?_;rintro _ w6⟨rfl,A⟩;have f:=z.out.1.go A;have rq:=z8 f.res;have rf:=zi f.res;have rl:=za f.res;have gq:=z8 f.mem.blk;have b3:=f.mem.lt;have Y:=z6 f;clear B A f;go_wp2_with fail;refine bodyPost_ret (v:=.tuple #[.agg #[.slice K c.length L,.slice (S ⟨O,0,N⟩) a.length H],.slice N 0 0,I J 6,I J i]) (by simp[results,results39,go_sem,rq,rl];done) rfl ⟨?_,.error (6,i),.rules HP.out a1.out,by simp,_,_,_,_,_,_,rfl⟩;exact(Y.out.below.setCell (p:=⟨w.heap.size,0,N⟩) (Nat.le_refl _) _).setCell (p:=⟨w.heap.size,1,N⟩) (Nat.le_refl _) _
      |false=>
       rw[n]at B;have bn:Hid (∀t (h:t<g.length),t<i+1->zx (zv (zj a)) g[t].choice=false):=by
        intro t h d;by_cases a4:t=i;·subst a4;exact n
        ·exact HU.out t h (by omega)
       clear n;go_wp2_with fail;refine B.mono ?_;rintro _ w6⟨rfl,A⟩;have Y:=z6 (And.intro (z.out.1.go A) ((A.block G (za z.out.2)).trans z.out.2));clear B A;go_wp2_with fail;go_roundg (a.length-(i+1));case measure=>omega
       case rel=>exact⟨i+1,rfl,by go_num,by omega,Y,bn⟩
     ·have aJ:¬(i:Int)<a.length:=by omega
      have bs:g.length<=i:=by have:=X.out;omega
      have ad:Hid (∀t (h:t<g.length),zx (zv (zj a)) g[t].choice=false):=λt h=>HU.out t h (by omega);obtain⟨ak,aE,aF⟩:=zfK ab.out aQ.out aR.out ad.out;obtain⟨y,Z⟩:∃y,y=Eof (Zp a) l:=⟨_,rfl⟩;have HE:=z6 Z;have aD:=zg0 aQ.out aR.out ak;rw[<-Z]at ak aE aF aD;have aA:=z6 aD;have ax:=z6 ak;have ay:=z6 aE;have az:=z6 aF;clear ak aE aF aD Z HU bs;go_wp2_with fail;go_loopg[14] a.length (λm a5 wr=>∃i:Nat,m=a.length-i/\a5=I J i/\i<=a.length/\Hid (Ju w (w.heap.size+1) D.heap.size (.slice K c.length L) (.slice (S ⟨O,0,N⟩) a.length H) c a wr/\wr.heap[G]?=S (zH l))/\Hid (∀t (h:t<g.length),t<i->zx (zJ (Eb (zj a) y)) g[t].choice=false));case atStart=>exact⟨0,by omega,rfl,by omega,z,λt _ d=>by omega⟩
      case round=>
       obtain⟨R,rfl,rfl,bG,o,HV⟩:=hrel;have q2:=z8 o.out.1.mem.blk;have br:=o.out.1.mem.lt;clear z q b9;by_cases ba:R<a.length
       ·have bx:(R:Int)<a.length:=by omega
        have a7:R<g.length:=by have:=X.out;omega
        obtain⟨_,d1⟩:=o.out.1.mem.ruCells R ba;have B:Calls P 67 #[.pointer (S ⟨D.heap.size,0,N⟩),I J a[R].2,.slice (S ⟨G,0,N⟩) c.length c.length,.bool false] wr λe w'=>e=.returned (.bool (zx (zJ (Eb (zj a) y)) g[R].choice))/\Below wr.heap.size wr w':=by have:=wiP (λ_=>aA.out) (aC false).out (.group g[R].choice) (Vv ab.out ba a7) (λ_=>by simp only[Zi];exact ad.out R a7);simp only[J9,Bool.false_or,Zi,HT,Bool.false_eq_true,if_false]at this;exact this wr o.out.1.mem o.out.2
        cases n:zx (zJ (Eb (zj a) y)) g[R].choice with
        |true=>
         rw[n]at B;have a1:Hid (Qh g (.error (7,R))):=by
          have h1:Qp g (zx (zv (zg g))) N:=λt d=>by rw[<-F.out];exact ad.out t d
          have U:=ax.out;have h3:=ay.out;rw[show a.map (·.1)=zg g from F.out]at U h3;exact .loop ai.out h1 az.out U h3 ⟨a7,by rw[<-F.out];exact n,λt d h4=>by rw[<-F.out];exact HV.out t d h4⟩
         clear n;go_wp2_with fail;refine B.mono ?_;rintro _ w6⟨rfl,A⟩;have f:=o.out.1.go A;have rq:=z8 f.res;have rf:=zi f.res;have rl:=za f.res;have gq:=z8 f.mem.blk;have b3:=f.mem.lt;have Y:=z6 f;clear B A f;go_wp2_with fail;refine bodyPost_ret (v:=.tuple #[.agg #[.slice K c.length L,.slice (S ⟨O,0,N⟩) a.length H],.slice N 0 0,I J 7,I J R]) (by simp[results,results39,go_sem,rq,rl];done) rfl ⟨?_,.error (7,R),.rules HP.out a1.out,by simp,_,_,_,_,_,_,rfl⟩;exact(Y.out.below.setCell (p:=⟨w.heap.size,0,N⟩) (Nat.le_refl _) _).setCell (p:=⟨w.heap.size,1,N⟩) (Nat.le_refl _) _
        |false=>
         rw[n]at B;have bo:Hid (∀t (h:t<g.length),t<R+1->zx (zJ (Eb (zj a) y)) g[t].choice=false):=by
          intro t h d;by_cases a4:t=R;·subst a4;exact n
          ·exact HV.out t h (by omega)
         clear n;go_wp2_with fail;refine B.mono ?_;rintro _ w6⟨rfl,A⟩;have Y:=z6 (And.intro (o.out.1.go A) ((A.block G (za o.out.2)).trans o.out.2));clear B A;go_wp2_with fail;go_roundg (a.length-(R+1));case measure=>omega
         case rel=>exact⟨R+1,rfl,by go_num,by omega,Y,bo⟩
       ·have bx:¬(R:Int)<a.length:=by omega
        have b2:Hid (∀t (h:t<g.length),zx (zJ (Eb (zj a) y)) g[t].choice=false):=λt h=>HV.out t h (by have:=X.out;omega);have b0:=z6 (zhU (w.heap.size+1) D.heap.size G (.slice K c.length L) (.slice (S ⟨O,0,N⟩) a.length H) c a l ah.out aT.out);have aY:Hid (∀k (hk:k<a.length),qB (w.heap.size+1) D.heap.size G (.slice K c.length L) (.slice (S ⟨O,0,N⟩) a.length H) c a l a[k].2 (Kh (zj a) y g k)):=by
         intro k hk;have a0:k<g.length:=by have:=X.out;omega
         rw[zae a0];have:=fiP aA.out b0.out (.group g[k].choice) (Vv ab.out hk a0) (by simp only[Zi];exact ad.out k a0) (by intro b n;cases n) (by simp only[ncP];have:=aV.out g[k] (List.getElem_mem a0);omega);simp only[Zy]at this;exact this
        have bd:0<(zj a).length:=by simpa using ae
        have aU:Hid (∀k j,k<a.length->(Za (zj a) y g k j=true↔j∈Kh (zj a) y g k)):=by
         intro k j hk;have a0:k<g.length:=by have:=X.out;omega
         rw[zae a0];exact KJ a0 bd
        have aW:Hid (∀k j,k<a.length->j∈Kh (zj a) y g k->j<a.length):=by intro k j _ hj;obtain⟨b,_,rfl⟩:=List.mem_map.1 hj;have:=YU b bd;simpa using this
        have aP:Hid (∀k,k<a.length->(Kh (zj a) y g k).length<=3000):=by
         intro k hk;have a0:k<g.length:=by have:=X.out;omega
         rw[zae a0,List.length_map];have h1:=UJ (Eb (zj a) y) g[k].choice;have U:=aV.out g[k] (List.getElem_mem a0);omega
        clear HV aC;go_wp2_with fail;go_loopg[16] a.length (λm a5 wr=>∃i:Nat,m=a.length-i/\a5=I J i/\i<=a.length/\Hid (Ju w (w.heap.size+1) D.heap.size (.slice K c.length L) (.slice (S ⟨O,0,N⟩) a.length H) c a wr/\wr.heap[G]?=S (zH l))/\Hid (∀t,t<i->Wm (Za (zj a) y g) a.length t t=false));case atStart=>exact⟨0,by omega,rfl,by omega,o,λt d=>by omega⟩
        case round=>
         obtain⟨W,rfl,rfl,bH,V,HX⟩:=hrel;have q3:=z8 V.out.1.mem.blk;have bF:=V.out.1.mem.lt;clear o q2 br;by_cases bA:W<a.length
         ·have bB:(W:Int)<a.length:=by omega
          have a7:W<g.length:=by have:=X.out;omega
          have B:=zhV wr _ _ G _ _ c a l (Za (zj a) y g) (Kh (zj a) y g) W V.out.1.mem V.out.2 aL bA aY.out aU.out aW.out aP.out;cases n:Wm (Za (zj a) y g) a.length W W with
          |true=>
           rw[n]at B;have a1:Hid (Qh g (.error (8,W))):=by
            have h1:Qp g (zx (zv (zg g))) N:=λt d=>by rw[<-F.out];exact ad.out t d
            have U:=ax.out;have h3:=ay.out;rw[show a.map (·.1)=zg g from F.out]at U h3;refine .left ai.out h1 az.out U h3 (λt d=>by rw[<-F.out];exact b2.out t d) ⟨a7,?_,λt d=> ?_⟩;·rw[<-F.out, <-X.out];exact n
            ·rw[<-F.out, <-X.out];exact HX.out t d
           clear n;go_wp2_with fail;refine B.mono ?_;rintro _ w6⟨rfl,A⟩;have f:=V.out.1.go A;have rq:=z8 f.res;have rf:=zi f.res;have rl:=za f.res;have gq:=z8 f.mem.blk;have b3:=f.mem.lt;have Y:=z6 f;clear B A f;go_wp2_with fail;refine bodyPost_ret (v:=.tuple #[.agg #[.slice K c.length L,.slice (S ⟨O,0,N⟩) a.length H],.slice N 0 0,I J 8,I J W]) (by simp[results,results39,go_sem,rq,rl];done) rfl ⟨?_,.error (8,W),.rules HP.out a1.out,by simp,_,_,_,_,_,_,rfl⟩;exact(Y.out.below.setCell (p:=⟨w.heap.size,0,N⟩) (Nat.le_refl _) _).setCell (p:=⟨w.heap.size,1,N⟩) (Nat.le_refl _) _
          |false=>
           rw[n]at B;have bp:Hid (∀t,t<W+1->Wm (Za (zj a) y g) a.length t t=false):=by
            intro t d;by_cases a4:t=W;·subst a4;exact n
            ·exact HX.out t (by omega)
           clear n;go_wp2_with fail;refine B.mono ?_;rintro _ w6⟨rfl,A⟩;have Y:=z6 (And.intro (V.out.1.go A) ((A.block G (za V.out.2)).trans V.out.2));clear B A;go_wp2_with fail;go_roundg (a.length-(W+1));case measure=>omega
           case rel=>exact⟨W+1,rfl,by go_num,by omega,Y,bp⟩
         ·have bB:¬(W:Int)<a.length:=by omega
          have a1:Hid (Qh g (.ok y)):=by
           have h1:Qp g (zx (zv (zg g))) N:=λt d=>by rw[<-F.out];exact ad.out t d
           have U:=ax.out;have h3:=ay.out;rw[show a.map (·.1)=zg g from F.out]at U h3;refine .ok ai.out h1 az.out U h3 (λt d=>by rw[<-F.out];exact b2.out t d) (λt d=> ?_);rw[<-F.out, <-X.out];exact HX.out t (by have:=X.out;omega)
          have rq:=z8 V.out.1.res;have rf:=zi V.out.1.res;have rl:=za V.out.1.res;clear aY aU aW aP b0;go_wp2_with fail;refine bodyPost_ret (v:=.tuple #[.agg #[.slice K c.length L,.slice (S ⟨O,0,N⟩) a.length H],.slice (S ⟨G,0,N⟩) c.length c.length,I J 0,I J 0]) (by simp[results,results39,go_sem,rq,rl];done) rfl ⟨?_,.ok (g,y),.ok HP.out a1.out,?_⟩;·exact(V.out.1.below.setCell (p:=⟨w.heap.size,0,N⟩) (Nat.le_refl _) _).setCell (p:=⟨w.heap.size,1,N⟩) (Nat.le_refl _) _
          ·refine⟨_,_,D.heap.size,G,c,a,l,rfl,?_,?_,aT.out,ah.out,ab.out,aA.out,HE.out,aL,ae,bD⟩;·exact((V.out.1.mem.setLow (by omega) (by omega) _ _).setLow (by omega) (by omega) _ _).mono (by omega)
           ·rw[Below.heap_setCell _ _ _ _ (by show G≠w.heap.size;omega),Below.heap_setCell _ _ _ _ (by show G≠w.heap.size;omega)];exact V.out.2
structure ztq(w w':World)(g:List ze)(s:ByteArray)(tb:Nat)(n:Option Nat):Prop where
 ex:∃(w0:World) (B gb eb ec:Nat) (vx vr:Value) (ps:List (RE×Value×Value)) (rs:List (z7×Nat)) (rbs:List Nat),w.heap.size<=w0.heap.size/\Env w0 B gb vx vr ps rs s rbs/\Stt w0 tb eb ec vx vr ps rs s rbs w'/\zV (zK ps) rs g
 val:∀o,(∀h:0<g.length,Ev g s.data.toList (.C g[0].choice) 0 o)->n=fin o
def zdp(t:List UInt8)(s:ByteArray)(w:World)(e:Ending)(d:World):Prop:=Below w.heap.size w d/\∃b,Zo t b/\match b with| .error (a,_)=>a≠0/\e=.returned (.tuple #[.pointer N,I J 0,I J a])| .ok (g,_)=>if 200<s.size then e=.returned (.tuple #[.pointer N,I J 0,I J 1])else∃c n,e=.returned (.tuple #[.pointer (S ⟨c,0,N⟩),I J (zF n),I J 0])/\ztq w d g s c n
theorem KpM.below{a:List Nat}{B:Nat}{w w':World}(h:KpM a w.heap.size w w')(d:∀b∈a,B<=b)(e:B<=w.heap.size):Below B w w':=⟨h.os,h.tape,h.output,h.size,λk f=>h.block k (by omega) (λc=>by have:=d k c;omega)⟩
theorem zca(t s:ByteArray)(w:World)(hs:t.size<=maxLen)(aw:s.size<=maxLen)(r:Except (Nat×Nat) (List ze))(v:Zs t.data.toList r):Calls P 75 #[.string t,.string s] w λe w'=>zdp t.data.toList s w e w':=by
 have a6:=zco t w hs r v;unfold maxLen at aw;clear v;go_enter func75,ntmps75;go_wp2_with fail;refine a6.mono ?_;rintro e j⟨z,az,v,hE⟩;have H:=z6 z;have u:=z6 v;have Z:=z.size;clear a6 z v;cases az with
 |error x=>
  obtain⟨er,ay⟩:=x;obtain⟨h0,n,xn,q,ra,rn,m,rfl⟩:=hE;have h1:¬(er:Int)=0:=by omega
  go_wp2_with fail;go_ret3;exact⟨H.out.alloc Z _,.error (er,ay),u.out,h0,rfl⟩
 |ok x=>
  obtain⟨g,E⟩:=x;obtain⟨vx,vr,gb,lb,h,a,l,rfl,c⟩:=hE;obtain⟨n,q,ae⟩:=zl c.mem.ex;rw[List.length_map]at ae;obtain⟨d,m,ax,_,aC⟩:=c.mem.ruAt c.rpos;subst ae;subst ax;by_cases a7:200<s.size
  ·have ap:(200:Int)<s.size:=by omega
   clear c;go_wp2_with fail;go_ret3;refine⟨H.out.alloc Z _,.ok (g,E),u.out,?_⟩;simp only[];rw[if_pos a7];rfl
  ·have ap:¬(200:Int)<s.size:=by omega
   have a9:=c.ple;have av:=c.rle;have F:=c.rpos;have ar:0<h.length:=by have:=c.fits.ru a[0] (List.getElem_mem F);omega
   obtain⟨W,y⟩:∃W,W=j.alloc (YB (.slice n h.length q) (.slice (S ⟨d,0,N⟩) a.length m)):=⟨_,rfl⟩;have R:Below j.heap.size j W:=by rw[y];exact zc _ _
   have U:W.heap[j.heap.size]?=S (YB (.slice n h.length q) (.slice (S ⟨d,0,N⟩) a.length m)):=by rw[y];exact zk _ _
   have a3:W.heap.size=j.heap.size+1:=by rw[y];simp
   have M:GM W w.heap.size j.heap.size (.slice n h.length q) (.slice (S ⟨d,0,N⟩) a.length m) (h.map (ZY (zj a))) a:=by have:=c.mem.below R;exact⟨U,this.ex,this.ru,this.items,this.parts⟩
   have a8:=zgK W n h.length q (.slice (S ⟨d,0,N⟩) a.length m) (S ⟨d,0,N⟩) a.length m rfl s (by omega) a9 ar;have d1:=(M.ruCells 0 F).2;have aa:W.cell? ⟨j.heap.size,1,N⟩=S (.slice (S ⟨d,0,N⟩) a.length m):=z8 U 1;have X:=c.den;have a4:0<g.length:=u.out.ends.pos;have V:=Vv X F a4;obtain⟨o,ho⟩:=qh (inp:=s.data.toList) u.out.ends;obtain⟨f,hf⟩:=(Ev.pgroup ho).sim X _ V;have K:=z6 c;have ai:=z6 M;have aj:=z6 a8;have HF:=z6 hf;have ag:=z6 V;have an:=z6 R;have au:d<W.heap.size:=by omega
   have D:=z6 a3;clear c R U M a8 X V hf ho a3;go_wp2_with fail;rw[<-y];clear y;refine aj.out.mono ?_;rintro _ G⟨eb,ec,a0,Y,rfl,O,A⟩;have L:Env W w.heap.size j.heap.size (.slice n h.length q) (.slice (S ⟨d,0,N⟩) a.length m) h a s a0:=⟨ai.out,K.out.fits,F,av,a9,by omega,Y⟩;have a2:Stt W (W.heap.size+1) eb ec (.slice n h.length q) (.slice (S ⟨d,0,N⟩) a.length m) h a s a0 G:=⟨λ_ _=> -2,O,λi k hk=>.inl rfl⟩;have ad:=zaC L f G a[0].2 0 (fin o) a2 (by omega) HF.out;have aB:G.cell? ⟨j.heap.size,1,N⟩=S (.slice (S ⟨d,0,N⟩) a.length m):=by rw[A.cell (p:=⟨j.heap.size,1,N⟩) (by show j.heap.size<_;have:=D.out;omega)];exact aa
   have d2:G.cell? ⟨d,1,N⟩=S (I J a[0].2):=by rw[A.cell (p:=⟨d,1,N⟩) au];simpa using d1
   have aE:=A.size;have aD:(0:Int)<a.length:=by omega
   have ak:=z6 O.rge;have ah:=z6 L;have a1:=z6 ((H.out.trans (an.out.mono Z)).trans (A.mono (by have:=D.out;omega)));have am:=z6 ad;generalize a[0].2=b0 at *;have aA:=z6 Y;clear O a2 L ad d1 aa A Y;go_wp2_with fail;refine am.out.mono ?_;rintro _ w3⟨rfl,ab,a5⟩;have al:=z6 ab;have af:=z6 (a1.out.trans (a5.below (B:=w.heap.size) (λb z=>by have:=ak.out b z;have:=D.out;omega) a1.out.size));clear ab a5;go_wp2_with fail;go_ret3;refine⟨af.out,.ok (g,E),u.out,?_⟩;simp only[];rw[if_neg a7];refine⟨_,fin o,rfl,⟨W,_,_,eb,ec,_,_,h,a,a0,by have:=D.out;omega,ah.out,al.out,K.out.den⟩,?_⟩;intro o' aq;obtain⟨f',ao⟩:=(Ev.pgroup (aq a4)).sim K.out.den _ ag.out;exact zbw HF.out ao
end
end Go.Proofs.YtiganlkabilblaaGreatDoor
