import Derived.Test.YtiganlkabilblaaGreatDoorV35
import Derived.Test.YtiganlkabilblaaGreatDoorV16
import Derived.Laws.AppendOwnNone
import Derived.Deep.Upon
set_option linter.all false
set_option maxHeartbeats 64000000
set_option maxRecDepth 100000
namespace Go.Proofs.YtiganlkabilblaaGreatDoor
open Tryz
open Tryz renaming prog->P
open Option renaming some->S,none->N
open Value renaming int->I
open IntKind renaming i64->J
section
open Go.RowKit
attribute [local go_sem ↓] Go.wp_at_zero Go.wp_at_succ
theorem zbN(n:Nat)(a:n<=100000)(w:World):(Instr.makeSlice 74 (I J n) (I J n)).run P w=.ok (.slice (S ⟨w.heap.size,0,N⟩) n n) (w.alloc (zH (List.replicate n false))):=by rw[run_make_row' 74 4 (.bool false) 1 underlying74 infoBool rfl J J n (by omega) (by omega) w];congr 3;apply Array.toList_inj.1;rw[toList_madeCells_one];simp
theorem qJ{w:World}{a:Nat}{l:List Bool}(h:w.heap[a]?=S (zH l))(j:Nat):(w.setCell ⟨a,j,N⟩ (.bool true)).heap[a]?=S (zH (l.set j true)):=by unfold zH at h|-;rw[Jo h,List.map_set];congr 2;apply Array.toList_inj.1;simp
structure Yd(w:World)(B gb lb:Nat)(vx vr:Value)(ps:List (RE×Value×Value))(rs:List (z7×Nat))(g:List ze)(l:List Bool)(wr:World):Prop where
 mem:GM wr B gb vx vr (ps.map (ZY (zj rs))) rs
 row:wr.heap[lb]?=some (zH l)
 len:l.length=ps.length
 fnd:Yr (zK ps) (zj rs) g l
 below:Below w.heap.size w wr
theorem Yd.go{w:World}{B b c:Nat}{i f:Value}{d:List (RE×Value×Value)}{e:List (z7×Nat)}{g:List ze}{l:List Bool}{wr j:World}(h:Yd w B b c i f d e g l wr)(a:Below wr.heap.size wr j):Yd w B b c i f d e g l j:=⟨h.mem.below a,by rw[a.block _ (za h.row)];exact h.row,h.len,h.fnd,h.below.trans (a.mono h.below.size)⟩
theorem Yd.set{w:World}{B j b:Nat}{n m:Value}{k:List (RE×Value×Value)}{f:List (z7×Nat)}{g:List ze}{l:List Bool}{wr:World}(h:Yd w B j b n m k f g l wr)(r:w.heap.size<=b)(o:zV (zK k) f g)(i:Nat)(q:Z3 (zK k) (zj f) (Zp f) l i=true):Yd w B j b n m k f g (l.set i true) (wr.setCell ⟨b,i,N⟩ (.bool true)):=by
 have t:=za h.row;have c:=Chg.set b i (.bool true) wr;have a:=h.row;unfold zH at a;refine⟨?_,qJ h.row i,by simp[h.len],h.fnd.step o q,h.below.setCell r _⟩;have s:j≠b:=by intro e;subst e;rw[h.mem.blk]at a;simp at a
 exact⟨by rw[c.same j h.mem.lt s];exact h.mem.blk,zq c h.mem.ex (zn h.mem.ex a (by decide)),zq c h.mem.ru (zn h.mem.ru a (by decide)),λp d=>zq c (h.mem.items p d) (zn (h.mem.items p d) a (by decide)),λp d=>zq c (h.mem.parts p d) (zn (h.mem.parts p d) a (by decide))⟩
structure V6(xs:List RE)(names:List z7)(bodies:List Nat)(l0 l:List Bool)(c:Bool)(i:Nat):Prop where
 no:c=false->l=l0/\∀j,j<i->Z3 xs names bodies l0 j=true->l0.getD j false=true
 yes:c=true->QO l<QO l0
 le:QO l<=QO l0
theorem zhP(w:World)(B p:Nat)(W r:Value)(a:List (RE×Value×Value))(b:List (z7×Nat))(g:List ze)(h:GM w B p W r (a.map (ZY (zj b))) b)(hF:K5 a b)(h0:0<a.length)(a4:0<b.length)(a2:a.length<=100000)(K:zV (zK a) b g):Calls P 66 #[.pointer (S ⟨p,0,N⟩)] w λe w'=>e=.returned (.slice (S ⟨w.heap.size,0,N⟩) a.length a.length)/\∃l,Yd w B p w.heap.size W r a b g l w'/\YK (zK a) (zj b) (Zp b) l:=by
 obtain⟨p0,G,F,ia,ic,pa,pc,hp,a3,rfl,ab,_⟩:=h.exp h0;have q:=z8 h.blk;have a6:=h.lt;have a9:=zbN a.length a2 w;have Z:Hid (Yd w B p w.heap.size (.slice (S ⟨G,0,N⟩) a.length F) r a b g (List.replicate a.length false) (w.alloc (zH (List.replicate a.length false)))):=⟨h.below (zc _ _),zk _ _,by simp,Yr.none _,zc _ _⟩;have X:=z6 hF;have Y:=z6 K;clear hF h K hp a3;go_enter func66,ntmps66;go_wp2_with fail;go_loopg[4] (a.length+1) (λm v wr=>∃(c:Bool) (l:List Bool),m=QO l+(if c then 1 else 0)/\v=.bool c/\Hid (Yd w B p w.heap.size (.slice (S ⟨G,0,N⟩) a.length F) r a b g l wr/\(c=false->YK (zK a) (zj b) (Zp b) l)));case atStart=>exact⟨true,List.replicate a.length false,by simp[QO],rfl,Z.out,by simp⟩
 case round=>
  obtain⟨c,o,rfl,rfl,y⟩:=hrel;cases c with
  |false=>go_wp2_with fail;go_ret;exact⟨rfl,o,y.out.1,y.out.2 (by simp)⟩
  |true=>
   have a0:Hid (V6 (zK a) (zj b) (Zp b) o o false 0):=⟨λ_=>⟨rfl,λj O=>by omega⟩,by simp,Nat.le_refl _⟩;have H:=z6 y.out.1;have V:=z8 H.out.mem.blk;clear y q;go_wp2_with fail;go_loopg[4,5] a.length (λm vc vi wr=>∃(i:Nat) (c:Bool) (l:List Bool),m=a.length-i/\vc=.bool c/\vi=I J i/\i<=a.length/\Hid (Yd w B p w.heap.size (.slice (S ⟨G,0,N⟩) a.length F) r a b g l wr/\V6 (zK a) (zj b) (Zp b) o l c i));case atStart=>exact⟨0,false,o,by omega,rfl,rfl,by omega,H.out,a0.out⟩
   case round=>
    obtain⟨i,c,l,rfl,rfl,rfl,hi,d⟩:=hrel;have q2:=z8 d.out.1.mem.blk;by_cases E:i<a.length
    ·have a1:(i:Int)<a.length:=by omega
     have M:=zhQ wr B p w.heap.size _ r a b l i d.out.1.mem X.out d.out.1.row d.out.1.len E a4;go_wp2_with fail;refine M.mono ?_;rintro _ w2⟨rfl,L⟩;have f:=z6 (d.out.1.go L);have R:=Y4 f.out.row i (by rw[f.out.len];exact E);have a5:=zi f.out.row i;have aa:=za f.out.row;clear M L q2 V;cases U:Z3 (zK a) (zj b) (Zp b) l i with
     |false=>
      have s:Hid (V6 (zK a) (zj b) (Zp b) o l c (i+1)):=by
       refine⟨λu=> ?_,d.out.2.yes,d.out.2.le⟩;obtain⟨n,t⟩:=d.out.2.no u;refine⟨n,λj O x=> ?_⟩;by_cases D:j=i;·subst D;rw[<-n,U]at x;cases x
       ·exact t j (by omega) x
      go_wp2_with fail;go_roundg (a.length-(i+1));case measure=>omega
      case rel=>exact⟨i+1,c,l,rfl,rfl,by go_num,by omega,f.out,s.out⟩
     |true=>
      cases A:l.getD i false with
      |true=>
       rw[A]at R;have s:Hid (V6 (zK a) (zj b) (Zp b) o l c (i+1)):=by
        refine⟨λu=> ?_,d.out.2.yes,d.out.2.le⟩;obtain⟨n,t⟩:=d.out.2.no u;refine⟨n,λj O x=> ?_⟩;by_cases D:j=i;·subst D;rw[<-n];exact A
        ·exact t j (by omega) x
       go_wp2_with fail;go_roundg (a.length-(i+1));case measure=>omega
       case rel=>exact⟨i+1,c,l,rfl,rfl,by go_num,by omega,f.out,s.out⟩
      |false=>
       rw[A]at R;have s:Hid (V6 (zK a) (zj b) (Zp b) o (l.set i true) true (i+1)):=by have hu:=qk l i (by rw[f.out.len];exact E) A;have:=d.out.2.le;exact⟨by simp,λ_=>by omega,by omega⟩
       have HT:=z6 (f.out.set (Nat.le_refl _) Y.out i U);go_wp2_with fail;go_roundg (a.length-(i+1));case measure=>omega
       case rel=>exact⟨i+1,true,_,rfl,rfl,by go_num,by omega,HT.out,s.out⟩
    ·have a1:¬(i:Int)<a.length:=by omega
     have a7:i=a.length:=by omega
     clear V;go_wp2_with fail;go_roundg (QO l+(if c then 1 else 0));case measure=>
      have n:=d.out.2.le;cases c with
      |false=>simp;omega|true=>have:=d.out.2.yes rfl;simp;omega
     case rel=>
      refine⟨c,l,rfl,rfl,d.out.1,?_⟩;intro u k z;obtain⟨n,t⟩:=d.out.2.no u;subst n;by_cases a8:k<a.length;·exact t k (by omega) z
      ·simp only[Z3]at z;rw[List.getElem?_eq_none (by simp;omega)]at z;cases z
def ztt(B c d:Nat)(h g:Value)(a:List (RE×Value×Value))(f:List (z7×Nat))(l:List Bool)(u:Bool)(k:Nat)(b:Bool):Prop:=∀w,GM w B c h g (a.map (ZY (zj f))) f->w.heap[d]?=S (zH l)->Calls P 67 #[.pointer (S ⟨c,0,N⟩),I J k,.slice (S ⟨d,0,N⟩) a.length a.length,.bool u] w λe i=>e=.returned (.bool b)/\Below w.heap.size w i
structure Yx(w:World)(B gb lb:Nat)(vx vr:Value)(ps:List (RE×Value×Value))(rs:List (z7×Nat))(l bs:List Bool)(O:Obj)(k:Nat)(wr:World):Prop where
 mem:GM wr B gb vx vr (ps.map (ZY (zj rs))) rs
 row:wr.heap[lb]?=some (zH l)
 own:wr.heap[w.heap.size]?=some O
 below:Below w.heap.size w wr
 kept:∀b,b<w.heap.size->wr.heap[b]?=w.heap[b]?
 no:∀j (h:j<bs.length),j<k->bs[j]=false
theorem Yx.go{w:World}{B d f:Nat}{n m:Value}{g:List (RE×Value×Value)}{i:List (z7×Nat)}{l c:List Bool}{O:Obj}{k:Nat}{wr o:World}(h:Yx w B d f n m g i l c O k wr)(a:Below wr.heap.size wr o)(q:∀(h:k<c.length),c[k]=false):Yx w B d f n m g i l c O (k+1) o:=by
 have s:=h.below.size;refine⟨h.mem.below a,by rw[a.block _ (za h.row)];exact h.row,by rw[a.block _ (za h.own)];exact h.own,h.below.trans (a.mono s),λb r=>by rw[a.block b (by omega)];exact h.kept b r,?_⟩;intro j e t;by_cases p:j=k;·subst p;exact q e
 ·exact h.no j e (by omega)
theorem Vm{a:List Bool}(h:∀j (b:j<a.length),a[j]=false):a.any id=false:=by rw[List.any_eq_false];intro x c;obtain⟨j,b,rfl⟩:=List.getElem_of_mem c;rw[h j b];simp
theorem ziB(B X Y:Nat)(vx Z:Value)(o:List (RE×Value×Value))(n:List (z7×Nat))(l:List Bool)(u:Bool)(hF:K5 o n)(av:l.length=o.length):Ve (zK o) (zj n) l u (ztt B X Y vx Z o n l u):=by
 intro k e g a4 a6 w h hL;have hi:k<o.length:=by have:=(List.getElem?_eq_some_iff.1 a4).1;simpa using this
 obtain⟨p,xg,xc,ia,ic,pa,pc,hp,ad,rfl,aB,c0,c1,c2,c3,c4,ax,az,U⟩:=h.exp hi;have ag:e=p.1:=by rw[List.getElem?_map,hp]at a4;simpa using a4.symm
 subst ag;have au:=a6.len;have aj:=za hL;have ao:=h.lt;have q:=z8 h.blk;have ab:=hF.ex p ad;have ar:(k:Int)<o.length:=by omega
 obtain⟨O,D⟩:∃O,O=exO p.1.kind (.slice ia p.1.items.length ic) p.1.text (rfE (zj n) p.1 0) (.slice pa p.1.parts.length pc):=⟨_,rfl⟩;have W:Hid (Yx w B X Y (.slice (S ⟨xg,0,N⟩) o.length xc) Z o n l g O 0 (w.alloc O)):=⟨h.below (zc _ _),by rw[zm _ _ aj];exact hL,zk _ _,zc _ _,λb hb=>zm _ _ hb,λj _ G=>by omega⟩;have a0:=z6 a6;have HL:=z6 hL;have a1:=z6 ab;have aa:=z6 (zc w O);clear a4 a6 h hL hF ad hp ab;by_cases F:Qk (zj n) l u p.1=true
 ·have a9:(Qk (zj n) l u p.1||g.any id)=true:=by rw[F];rfl
  rw[a9];cases u with
  |true=>
   have d:p.1.kind=4/\(zj n).contains p.1.text=false:=by simpa[Qk]using F
   have V:=KU (names:=zj n) d.1;rw[if_neg (by rw[d.2];simp)]at V;rw[d.1,V]at D;rw[d.1]at c0;rw[V]at c3;subst D;clear F a9 W;go_enter func67,ntmps67;go_wp2_with fail;go_ret;exact⟨rfl,aa.out⟩
  |false=>
   have d:(p.1.kind=8\/p.1.kind=9)/\l.getD (p.1.parts.headD 0) false=true:=by simpa[Qk,List.getD_eq_getElem?_getD]using F
   obtain⟨d,z⟩:=d;obtain⟨M,E⟩:=a1.out.2.1 (by omega);have ae:=a1.out.1 M (by rw[E];simp);obtain⟨i,rfl,H,A⟩:=U 0 (by rw[E];simp);simp only[E,List.getElem_cons_zero]at A;have a7:=Y4 HL.out M (by omega);rw[E]at z;simp only[List.headD_cons]at z;rw[z]at a7;have af:(M:Int)<o.length:=by omega
   simp only[E,List.length_singleton]at c4 D;clear F a9 W U;rcases d with d|d;all_goals rw[d]at c0 D;subst D;go_enter func67,ntmps67;go_wp2_with fail;go_ret;exact⟨rfl,aa.out⟩
 ·have R:Qk (zj n) l u p.1=false:=by simpa using F
  rw[R,Bool.false_or];cases u with
  |true=>
   by_cases d:p.1.kind=4
   ·have hn:(zj n).contains p.1.text=true:=by simpa[Qk,d]using R
    have V:=KU (names:=zj n) d;rw[if_pos hn]at V;rw[d,V]at D;rw[d]at c0;rw[V]at c3;obtain⟨x,hx⟩:∃x,x=(zj n).idxOf p.1.text:=⟨_,rfl⟩;rw[<-hx]at D c3;have aA:¬(x:Int)<0:=by omega
    subst D;clear F R hn V hx;go_enter func67,ntmps67;go_wp2_with fail;go_loopg[10] p.1.parts.length (λm v wr=>∃t:Nat,m=p.1.parts.length-t/\v=I J t/\t<=p.1.parts.length/\Hid (Yx w B X Y (.slice (S ⟨xg,0,N⟩) o.length xc) Z o n l g (exO 4 (.slice ia p.1.items.length ic) p.1.text x (.slice pa p.1.parts.length pc)) t wr));case atStart=>exact⟨0,by omega,rfl,by omega,W⟩
    case round=>
     obtain⟨t,rfl,rfl,ht,c⟩:=hrel;have eq:=z8 c.out.own;have a2:=za c.out.own;by_cases z:t<p.1.parts.length
     ·have L:(t:Int)<p.1.parts.length:=by omega
      obtain⟨i,rfl,H,A⟩:=U t z;have a3:wr.cell? ⟨i,t,N⟩=S (I J p.1.parts[t]):=by rw[World.cell?_of_block (a:=⟨i,t,N⟩) (c.out.kept i H)];exact A
      have y:=a0.out.get t z (by omega) wr c.out.mem c.out.row;obtain⟨b,r⟩:∃b,Hid (b=g[t]'(by omega)):=⟨_,z6 rfl⟩;rw[<-r.out]at y;clear A;go_wp2_with fail;refine y.mono ?_;rintro _ w2⟨rfl,f⟩;cases b with
      |true=>
       have s:g.any id=true:=by rw[List.any_eq_true];exact⟨true,by rw[r.out];exact List.getElem_mem _,rfl⟩
       go_wp2_with fail;go_ret;first|exact⟨rfl,c.out.below.trans (f.mono c.out.below.size)⟩|exact⟨congrArg (λb=>Ending.returned (Value.bool b)) s.symm,c.out.below.trans (f.mono c.out.below.size)⟩
      |false=>
       have K:=z6 (c.out.go f (λ_=>r.out.symm));clear f y;go_wp2_with fail;go_roundg (p.1.parts.length-(t+1));case measure=>omega
       case rel=>exact⟨t+1,rfl,by go_num,by omega,K⟩
     ·have L:¬(t:Int)<p.1.parts.length:=by omega
      have s:g.any id=false:=Vm (λj G=>c.out.no j G (by omega));go_wp2_with fail;go_ret;first|exact⟨rfl,c.out.below⟩|exact⟨congrArg (λb=>Ending.returned (Value.bool b)) s.symm,c.out.below⟩
   ·have ah:¬(p.1.kind:Int)=4:=by omega
    have ai:decide ((p.1.kind:Int)=4)=false:=by simp;omega
    subst D;clear F R;go_enter func67,ntmps67;go_wp2_with fail;go_loopg[10] p.1.parts.length (λm v wr=>∃t:Nat,m=p.1.parts.length-t/\v=I J t/\t<=p.1.parts.length/\Hid (Yx w B X Y (.slice (S ⟨xg,0,N⟩) o.length xc) Z o n l g (exO p.1.kind (.slice ia p.1.items.length ic) p.1.text (rfE (zj n) p.1 0) (.slice pa p.1.parts.length pc)) t wr));case atStart=>exact⟨0,by omega,rfl,by omega,W⟩
    case round=>
     obtain⟨t,rfl,rfl,ht,c⟩:=hrel;have eq:=z8 c.out.own;have a2:=za c.out.own;by_cases z:t<p.1.parts.length
     ·have L:(t:Int)<p.1.parts.length:=by omega
      obtain⟨i,rfl,H,A⟩:=U t z;have a3:wr.cell? ⟨i,t,N⟩=S (I J p.1.parts[t]):=by rw[World.cell?_of_block (a:=⟨i,t,N⟩) (c.out.kept i H)];exact A
      have y:=a0.out.get t z (by omega) wr c.out.mem c.out.row;obtain⟨b,r⟩:∃b,Hid (b=g[t]'(by omega)):=⟨_,z6 rfl⟩;rw[<-r.out]at y;clear A;go_wp2_with fail;refine y.mono ?_;rintro _ w2⟨rfl,f⟩;cases b with
      |true=>
       have s:g.any id=true:=by rw[List.any_eq_true];exact⟨true,by rw[r.out];exact List.getElem_mem _,rfl⟩
       go_wp2_with fail;go_ret;first|exact⟨rfl,c.out.below.trans (f.mono c.out.below.size)⟩|exact⟨congrArg (λb=>Ending.returned (Value.bool b)) s.symm,c.out.below.trans (f.mono c.out.below.size)⟩
      |false=>
       have K:=z6 (c.out.go f (λ_=>r.out.symm));clear f y;go_wp2_with fail;go_roundg (p.1.parts.length-(t+1));case measure=>omega
       case rel=>exact⟨t+1,rfl,by go_num,by omega,K⟩
     ·have L:¬(t:Int)<p.1.parts.length:=by omega
      have s:g.any id=false:=Vm (λj G=>c.out.no j G (by omega));go_wp2_with fail;go_ret;first|exact⟨rfl,c.out.below⟩|exact⟨congrArg (λb=>Ending.returned (Value.bool b)) s.symm,c.out.below⟩
  |false=>
   by_cases d:p.1.kind=8\/p.1.kind=9
   ·obtain⟨M,E⟩:=a1.out.2.1 (by omega);have ak:l.getD M false=false:=by rcases d with d|d<;>simpa[Qk,d,E,List.getD_eq_getElem?_getD]using R
    have ae:=a1.out.1 M (by rw[E];simp);obtain⟨a5,al,aw,am⟩:=U 0 (by rw[E];simp);simp only[E,List.getElem_cons_zero]at am;have a7:=Y4 HL.out M (by omega);rw[ak]at a7;have af:(M:Int)<o.length:=by omega
    have an:p.1.parts.length=1:=by rw[E];rfl
    have ay:(0:Int)<p.1.parts.length:=by omega
    clear an;subst al;rcases d with d|d
    ·rw[d]at c0 D;subst D;clear F R E;go_enter func67,ntmps67;go_wp2_with fail;go_loopg[10] p.1.parts.length (λm v wr=>∃t:Nat,m=p.1.parts.length-t/\v=I J t/\t<=p.1.parts.length/\Hid (Yx w B X Y (.slice (S ⟨xg,0,N⟩) o.length xc) Z o n l g (exO 8 (.slice ia p.1.items.length ic) p.1.text (rfE (zj n) p.1 0) (.slice (S ⟨a5,0,N⟩) p.1.parts.length pc)) t wr));case atStart=>exact⟨0,by omega,rfl,by omega,W⟩
     case round=>
      obtain⟨t,rfl,rfl,ht,c⟩:=hrel;have eq:=z8 c.out.own;have a2:=za c.out.own;by_cases z:t<p.1.parts.length
      ·have L:(t:Int)<p.1.parts.length:=by omega
       obtain⟨i,a8,H,A⟩:=U t z;obtain rfl:i=a5:=by simpa using a8.symm
       have a3:wr.cell? ⟨i,t,N⟩=S (I J p.1.parts[t]):=by rw[World.cell?_of_block (a:=⟨i,t,N⟩) (c.out.kept i H)];exact A
       have y:=a0.out.get t z (by omega) wr c.out.mem c.out.row;obtain⟨b,r⟩:∃b,Hid (b=g[t]'(by omega)):=⟨_,z6 rfl⟩;rw[<-r.out]at y;clear A;go_wp2_with fail;refine y.mono ?_;rintro _ w2⟨rfl,f⟩;cases b with
       |true=>
        have s:g.any id=true:=by rw[List.any_eq_true];exact⟨true,by rw[r.out];exact List.getElem_mem _,rfl⟩
        go_wp2_with fail;go_ret;first|exact⟨rfl,c.out.below.trans (f.mono c.out.below.size)⟩|exact⟨congrArg (λb=>Ending.returned (Value.bool b)) s.symm,c.out.below.trans (f.mono c.out.below.size)⟩
       |false=>
        have K:=z6 (c.out.go f (λ_=>r.out.symm));clear f y;go_wp2_with fail;go_roundg (p.1.parts.length-(t+1));case measure=>omega
        case rel=>exact⟨t+1,rfl,by go_num,by omega,K⟩
      ·have L:¬(t:Int)<p.1.parts.length:=by omega
       have s:g.any id=false:=Vm (λj G=>c.out.no j G (by omega));go_wp2_with fail;go_ret;first|exact⟨rfl,c.out.below⟩|exact⟨congrArg (λb=>Ending.returned (Value.bool b)) s.symm,c.out.below⟩
    ·rw[d]at c0 D;subst D;clear F R E;go_enter func67,ntmps67;go_wp2_with fail;go_loopg[10] p.1.parts.length (λm v wr=>∃t:Nat,m=p.1.parts.length-t/\v=I J t/\t<=p.1.parts.length/\Hid (Yx w B X Y (.slice (S ⟨xg,0,N⟩) o.length xc) Z o n l g (exO 9 (.slice ia p.1.items.length ic) p.1.text (rfE (zj n) p.1 0) (.slice (S ⟨a5,0,N⟩) p.1.parts.length pc)) t wr));case atStart=>exact⟨0,by omega,rfl,by omega,W⟩
     case round=>
      obtain⟨t,rfl,rfl,ht,c⟩:=hrel;have eq:=z8 c.out.own;have a2:=za c.out.own;by_cases z:t<p.1.parts.length
      ·have L:(t:Int)<p.1.parts.length:=by omega
       obtain⟨i,a8,H,A⟩:=U t z;obtain rfl:i=a5:=by simpa using a8.symm
       have a3:wr.cell? ⟨i,t,N⟩=S (I J p.1.parts[t]):=by rw[World.cell?_of_block (a:=⟨i,t,N⟩) (c.out.kept i H)];exact A
       have y:=a0.out.get t z (by omega) wr c.out.mem c.out.row;obtain⟨b,r⟩:∃b,Hid (b=g[t]'(by omega)):=⟨_,z6 rfl⟩;rw[<-r.out]at y;clear A;go_wp2_with fail;refine y.mono ?_;rintro _ w2⟨rfl,f⟩;cases b with
       |true=>
        have s:g.any id=true:=by rw[List.any_eq_true];exact⟨true,by rw[r.out];exact List.getElem_mem _,rfl⟩
        go_wp2_with fail;go_ret;first|exact⟨rfl,c.out.below.trans (f.mono c.out.below.size)⟩|exact⟨congrArg (λb=>Ending.returned (Value.bool b)) s.symm,c.out.below.trans (f.mono c.out.below.size)⟩
       |false=>
        have K:=z6 (c.out.go f (λ_=>r.out.symm));clear f y;go_wp2_with fail;go_roundg (p.1.parts.length-(t+1));case measure=>omega
        case rel=>exact⟨t+1,rfl,by go_num,by omega,K⟩
      ·have L:¬(t:Int)<p.1.parts.length:=by omega
       have s:g.any id=false:=Vm (λj G=>c.out.no j G (by omega));go_wp2_with fail;go_ret;first|exact⟨rfl,c.out.below⟩|exact⟨congrArg (λb=>Ending.returned (Value.bool b)) s.symm,c.out.below⟩
   ·have ah:¬(p.1.kind:Int)=8:=by omega
    have ai:¬(p.1.kind:Int)=9:=by omega
    have ap:decide ((p.1.kind:Int)=8)=false:=by simp;omega
    have aq:decide ((p.1.kind:Int)=9)=false:=by simp;omega
    subst D;clear F R;go_enter func67,ntmps67;go_wp2_with fail;go_loopg[10] p.1.parts.length (λm v wr=>∃t:Nat,m=p.1.parts.length-t/\v=I J t/\t<=p.1.parts.length/\Hid (Yx w B X Y (.slice (S ⟨xg,0,N⟩) o.length xc) Z o n l g (exO p.1.kind (.slice ia p.1.items.length ic) p.1.text (rfE (zj n) p.1 0) (.slice pa p.1.parts.length pc)) t wr));case atStart=>exact⟨0,by omega,rfl,by omega,W⟩
    case round=>
     obtain⟨t,rfl,rfl,ht,c⟩:=hrel;have eq:=z8 c.out.own;have a2:=za c.out.own;by_cases z:t<p.1.parts.length
     ·have L:(t:Int)<p.1.parts.length:=by omega
      obtain⟨i,rfl,H,A⟩:=U t z;have a3:wr.cell? ⟨i,t,N⟩=S (I J p.1.parts[t]):=by rw[World.cell?_of_block (a:=⟨i,t,N⟩) (c.out.kept i H)];exact A
      have y:=a0.out.get t z (by omega) wr c.out.mem c.out.row;obtain⟨b,r⟩:∃b,Hid (b=g[t]'(by omega)):=⟨_,z6 rfl⟩;rw[<-r.out]at y;clear A;go_wp2_with fail;refine y.mono ?_;rintro _ w2⟨rfl,f⟩;cases b with
      |true=>
       have s:g.any id=true:=by rw[List.any_eq_true];exact⟨true,by rw[r.out];exact List.getElem_mem _,rfl⟩
       go_wp2_with fail;go_ret;first|exact⟨rfl,c.out.below.trans (f.mono c.out.below.size)⟩|exact⟨congrArg (λb=>Ending.returned (Value.bool b)) s.symm,c.out.below.trans (f.mono c.out.below.size)⟩
      |false=>
       have K:=z6 (c.out.go f (λ_=>r.out.symm));clear f y;go_wp2_with fail;go_roundg (p.1.parts.length-(t+1));case measure=>omega
       case rel=>exact⟨t+1,rfl,by go_num,by omega,K⟩
     ·have L:¬(t:Int)<p.1.parts.length:=by omega
      have s:g.any id=false:=Vm (λj G=>c.out.no j G (by omega));go_wp2_with fail;go_ret;first|exact⟨rfl,c.out.below⟩|exact⟨congrArg (λb=>Ending.returned (Value.bool b)) s.symm,c.out.below⟩
theorem zdl{w:World}{A:Array Oper}{D:List Oper}{o:Oper}{a:Act}{Q:Exit->Act->World->Prop}(q:o.guard=N)(s x:Operand)(t:o.op=.call {callee:=.builtin .append,args:=#[s,x],argTypes:=#[40,40]})(B F:Nat)(v E:Value)(c b:List Nat)(y:a.eval s=v)(m:Ints w B v c)(k:a.eval x=E)(p:Ints w F E b)(W:c.length+b.length<=200000)(L:B<=w.heap.size)(h:∀l d,Ints d B l (c++b)->w.grownBy d v.ownBlock->wpList P A Q D (a.put o.dst l) d):wpList P A Q (o::D) a w:=by
 obtain⟨z,r,O,R,U⟩:=info_parts infoInt;have M:=p;rcases M.2 with⟨f,H⟩|⟨e,G,V,f,_,Z,X,Y,_⟩;·rw[f]at k;refine wpList_append_own_none q s x 40 t B 3 z 1 underlying40 r v c.length (c.map Zq) y m k (h v w ?_ ⟨rfl,rfl,rfl,Nat.le_refl _,λ_ _ _=>rfl⟩);have:b=[]:=List.length_eq_zero_iff.1 H;rw[this,List.append_nil];exact m
 ·rw[f]at k;refine wpList_append_own w q s x 40 t B 3 z _ 1 8 underlying40 r O R U rfl (by decide) v c.length (c.map Zq) y m ⟨e,0,N⟩ b.length G (b.map Zq) k (by simp) ?_ ?_ (by unfold maxLen;omega) (by omega) L ?_
  ·intro j u i;have hj:j<b.length:=by have:=(List.getElem?_eq_some_iff.1 i).1;simpa using this
   rw[f]at p;have:=p.cellAt (g:=e) j (by omega);rw[show(Addr.add ⟨e,0,N⟩ j)=⟨e,j,N⟩from by unfold Addr.add;split<;>simp_all,this];exact i
  ·intro u i;obtain⟨n,_,rfl⟩:=List.mem_map.1 i;rfl
  ·intro l d J K _;refine h l d ?_ K;unfold Ints;simpa using J
def qB(B b c:Nat)(i h:Value)(a:List (RE×Value×Value))(d:List (z7×Nat))(l:List Bool)(k:Nat)(g:List Nat):Prop:=∀w,GM w B b i h (a.map (ZY (zj d))) d->w.heap[c]?=S (zH l)->Calls P 104 #[.pointer (S ⟨b,0,N⟩),I J k,.slice (S ⟨c,0,N⟩) a.length a.length] w λe f=>∃v,e=.returned v/\Ints f w.heap.size v g/\Below w.heap.size w f
structure K4(w:World)(fs:List (List Nat))(sq:Bool)(ls:List Bool)(O:Obj)(k:Nat)(acc:List Nat)(v:Value)(wr:World):Prop where
 own:wr.heap[w.heap.size]?=some O
 below:Below w.heap.size w wr
 out:Ints wr (w.heap.size+1) v acc
 join:ZI sq fs ls=acc++ZI sq (fs.drop k) (ls.drop k)
theorem zbK(c:Bool)(a:List (List Nat))(b:List Bool)(k:Nat)(d:k<a.length)(e:k<b.length):ZI c (a.drop k) (b.drop k)=a[k]++(if c&& !b[k]then[]else ZI c (a.drop (k+1)) (b.drop (k+1))):=by rw[List.drop_eq_getElem_cons d,List.drop_eq_getElem_cons e];rfl
theorem K4.grown{w:World}{j:List (List Nat)}{m:Bool}{l:List Bool}{O:Obj}{k:Nat}{i:List Nat}{v:Value}{wr g c:World}(h:K4 w j m l O k i v wr)(a:Below wr.heap.size wr g)(b:g.grownBy c v.ownBlock):c.heap[w.heap.size]?=S O/\Below w.heap.size w c:=by
 have o:=h.below.size;have p:=a.size;have q:=b.size;have n:=za h.own;have f:∀k,k<=w.heap.size->c.heap[k]?=wr.heap[k]?:=by intro k d;rw[b.block k (by omega) (λe=>by have:=(h.out.lt k e.symm).1;omega)];exact a.block k (by omega)
 refine⟨by rw[f _ (Nat.le_refl _)];exact h.own,?_⟩;exact⟨b.os.trans (a.os.trans h.below.os),b.tape.trans (a.tape.trans h.below.tape),b.output.trans (a.output.trans h.below.output),by omega,λk d=>by rw[f k (by omega)];exact h.below.block k d⟩
theorem zhU(B gb ak:Nat)(vx vr:Value)(n:List (RE×Value×Value))(j:List (z7×Nat))(d:List Bool)(hF:K5 n j)(aH:d.length=n.length):Vd (zK n) (zj j) d (qB B gb ak vx vr n j d):=by
 constructor
 ·intro k e v ae hn g h L;have hi:k<n.length:=by have:=(List.getElem?_eq_some_iff.1 v).1;simpa using this
  obtain⟨p,xg,xc,E,F,pa,G,W,a4,rfl,aA,c0,c1,c2,c3,c4,ay,az,ai⟩:=h.exp hi;have ad:e=p.1:=by rw[List.getElem?_map,W]at v;simpa using v.symm
  subst ad;have av:=h.lt;have q:=z8 h.blk;have aw:(k:Int)<n.length:=by omega
  have a5:=KU (names:=zj j) ae;rw[if_pos hn]at a5;have ao:idx0 (zj j) p.1.text=(zj j).idxOf p.1.text:=by unfold idx0;rw[if_pos hn]
  rw[ao];obtain⟨x,hx⟩:∃x,x=(zj j).idxOf p.1.text:=⟨_,rfl⟩;rw[<-hx]at a5|-;rw[ae]at c0;rw[a5]at c3;clear v h L a4 W a5 ao hn hx;go_enter func104,ntmps104;go_wp2_with fail;go_ret;refine⟨_,rfl,⟨by simp,.inr ⟨g.heap.size+1,1,_,rfl,by omega,Ji _ _ _ (by simp),by simp,by unfold maxLen;omega,rfl,rfl⟩⟩,(zc _ _).alloc (by simp) _⟩
 ·intro k e c v ae aa an g h L;have hi:k<n.length:=by have:=(List.getElem?_eq_some_iff.1 v).1;simpa using this
  obtain⟨p,xg,xc,E,F,pa,G,W,a4,rfl,aA,c0,c1,c2,c3,c4,ay,az,ai⟩:=h.exp hi;have ad:e=p.1:=by rw[List.getElem?_map,W]at v;simpa using v.symm
  subst ad;have aG:=aa.len;have a3:=za L;have av:=h.lt;have q:=z8 h.blk;have a2:=hF.ex p a4;have aw:(k:Int)<n.length:=by omega
  obtain⟨O,hO⟩:∃O,O=exO p.1.kind (.slice E p.1.items.length F) p.1.text (rfE (zj j) p.1 0) (.slice pa p.1.parts.length G):=⟨_,rfl⟩;have HS:Hid (K4 g c (p.1.kind==5) (p.1.parts.map λp=>d.getD p false) O 0 [] (.slice N 0 0) (g.alloc O)):=⟨zk _ _,zc _ _,World.ownsRow_nil _ _ _ _,by simp⟩;have al:=z6 aa;have HL:=z6 L;have HM:=z6 h;have am:=z6 a2;have a0:=z6 an;have aB:=z6 (zc g O);clear v aa h L hF a4 W a2 an;by_cases af:p.1.kind=5
  ·rw[show(p.1.kind==5)=true from by simpa using af]at HS a0|-;rw[af]at c0 hO;subst hO;go_enter func104,ntmps104;go_wp2_with fail;go_loopg[8,9] p.1.parts.length (λm vo vi wr=>∃(t:Nat) (i:List Nat),m=p.1.parts.length-t/\vi=I J t/\t<=p.1.parts.length/\Hid (K4 g c true (p.1.parts.map λp=>d.getD p false) (exO 5 (.slice E p.1.items.length F) p.1.text (rfE (zj j) p.1 0) (.slice pa p.1.parts.length G)) t i vo wr));case atStart=>exact⟨0,[],by omega,rfl,by omega,HS⟩
   case round=>
    obtain⟨t,i,rfl,rfl,ht,b⟩:=hrel;have eq:=z8 b.out.own;have ap:=za b.out.own;by_cases s:t<p.1.parts.length
    ·have ah:(t:Int)<p.1.parts.length:=by omega
     obtain⟨f,rfl,X,z⟩:=ai t s;have aj:wr.cell? ⟨f,t,N⟩=S (I J p.1.parts[t]):=by rw[World.cell?_of_block (a:=⟨f,t,N⟩) (b.out.below.block f X)];exact z
     have a2:=am.out.1 p.1.parts[t] (List.getElem_mem s);have au:(p.1.parts[t]:Int)<n.length:=by omega
     have Y:t<c.length:=by omega
     have M:=al.out.get t s Y wr (HM.out.below b.out.below) (by rw[b.out.below.block _ a3];exact HL.out);have D:=z6 (zbK true c (p.1.parts.map λp=>d.getD p false) t Y (by simpa using s));have a6:Hid (i.length+c[t].length<=100000):=by have K:=a0.out;rw[b.out.join,D.out]at K;simp only[List.length_append]at K;show _<=_;omega
     have a8:=z6 z;clear z;go_wp2_with(first|(at_builtin;refine zdl rfl _ _ rfl (g.heap.size+1) wr.heap.size _ _ i c[t] rfl (Zv b.out.out o) rfl U (by have:=a6.out;omega) (by have:=o.size;omega) ?_)|(go_at_call 104;refine M.mono ?_;rintro _ w2⟨v2,rfl,U,o⟩))
     intro v3 A V R;obtain⟨u,r⟩:=b.out.grown o R;have ar:=z8 u;have aq:=za u;have ax:A.cell? ⟨f,t,N⟩=S (I J p.1.parts[t]):=by rw[World.cell?_of_block (a:=⟨f,t,N⟩) (r.block f X)];exact a8.out
     have ag:=Y4 (w:=A) (lb:=ak) (l:=d) (by rw[r.block _ a3];exact HL.out) p.1.parts[t] (by omega);have a1:=z6 V;have a7:=z6 u;have Z:=z6 r;clear M U o V u r R eq aj;cases hb:d.getD p.1.parts[t] false with
     |true=>
      rw[hb]at ag;have HN:Hid (K4 g c true (p.1.parts.map λp=>d.getD p false) (exO 5 (.slice E p.1.items.length F) p.1.text (rfE (zj j) p.1 0) (.slice (S ⟨f,0,N⟩) p.1.parts.length G)) (t+1) (i++c[t]) v3 A):=by refine⟨a7.out,Z.out,a1.out,?_⟩;rw[b.out.join,D.out,List.append_assoc,if_neg (by simp only[List.getElem_map];rw[hb];simp)]
      go_wp2_with fail;go_roundg (p.1.parts.length-(t+1));case measure=>omega
      case rel=>exact⟨t+1,_,rfl,by go_num,by omega,HN⟩
     |false=>
      rw[hb]at ag;have y:i++c[t]=ZI true c (p.1.parts.map λp=>d.getD p false):=by rw[b.out.join,D.out,if_pos (by simp only[List.getElem_map];rw[hb];rfl)];simp
      have H:=z6 y;clear y;go_wp2_with fail;go_ret;exact⟨_,rfl,by rw[<-H.out];exact Zn a1.out (by omega),Z.out⟩
    ·have ah:¬(t:Int)<p.1.parts.length:=by omega
     have y:i=ZI true c (p.1.parts.map λp=>d.getD p false):=by rw[b.out.join,List.drop_eq_nil_of_le (show c.length<=t by omega)];simp[ZI]
     have H:=z6 y;clear y;go_wp2_with fail;go_ret;have ab:=Zn b.out.out (show g.heap.size<=g.heap.size+1 by omega);have a9:=H.out;subst a9;exact⟨_,rfl,ab,b.out.below⟩
  ·rw[show(p.1.kind==5)=false from by simpa using af]at HS a0|-;have aC:¬(p.1.kind:Int)=5:=by omega
   have aD:¬(p.1.kind:Int)=4:=by omega
   have aE:((p.1.kind:Int)==5)=false:=by simp;omega
   have aF:((p.1.kind:Int)==4)=false:=by simp;omega
   subst hO;go_enter func104,ntmps104;go_wp2_with fail;go_loopg[8,9] p.1.parts.length (λm vo vi wr=>∃(t:Nat) (i:List Nat),m=p.1.parts.length-t/\vi=I J t/\t<=p.1.parts.length/\Hid (K4 g c false (p.1.parts.map λp=>d.getD p false) (exO p.1.kind (.slice E p.1.items.length F) p.1.text (rfE (zj j) p.1 0) (.slice pa p.1.parts.length G)) t i vo wr));case atStart=>exact⟨0,[],by omega,rfl,by omega,HS⟩
   case round=>
    obtain⟨t,i,rfl,rfl,ht,b⟩:=hrel;have eq:=z8 b.out.own;have ap:=za b.out.own;by_cases s:t<p.1.parts.length
    ·have ah:(t:Int)<p.1.parts.length:=by omega
     obtain⟨f,rfl,X,z⟩:=ai t s;have aj:wr.cell? ⟨f,t,N⟩=S (I J p.1.parts[t]):=by rw[World.cell?_of_block (a:=⟨f,t,N⟩) (b.out.below.block f X)];exact z
     have a2:=am.out.1 p.1.parts[t] (List.getElem_mem s);have au:(p.1.parts[t]:Int)<n.length:=by omega
     have Y:t<c.length:=by omega
     have M:=al.out.get t s Y wr (HM.out.below b.out.below) (by rw[b.out.below.block _ a3];exact HL.out);have D:=z6 (zbK false c (p.1.parts.map λp=>d.getD p false) t Y (by simpa using s));have a6:Hid (i.length+c[t].length<=100000):=by have K:=a0.out;rw[b.out.join,D.out]at K;simp only[List.length_append]at K;show _<=_;omega
     have a8:=z6 z;clear z;go_wp2_with(first|(at_builtin;refine zdl rfl _ _ rfl (g.heap.size+1) wr.heap.size _ _ i c[t] rfl (Zv b.out.out o) rfl U (by have:=a6.out;omega) (by have:=o.size;omega) ?_)|(go_at_call 104;refine M.mono ?_;rintro _ w2⟨v2,rfl,U,o⟩))
     intro v3 A V R;obtain⟨u,r⟩:=b.out.grown o R;have ar:=z8 u;have aq:=za u;have ax:A.cell? ⟨f,t,N⟩=S (I J p.1.parts[t]):=by rw[World.cell?_of_block (a:=⟨f,t,N⟩) (r.block f X)];exact a8.out
     have ag:=Y4 (w:=A) (lb:=ak) (l:=d) (by rw[r.block _ a3];exact HL.out) p.1.parts[t] (by omega);have a1:=z6 V;have a7:=z6 u;have Z:=z6 r;clear M U o V u r R eq aj;have HN:Hid (K4 g c false (p.1.parts.map λp=>d.getD p false) (exO p.1.kind (.slice E p.1.items.length F) p.1.text (rfE (zj j) p.1 0) (.slice (S ⟨f,0,N⟩) p.1.parts.length G)) (t+1) (i++c[t]) v3 A):=by refine⟨a7.out,Z.out,a1.out,?_⟩;rw[b.out.join,D.out,List.append_assoc,if_neg (by simp)]
     go_wp2_with fail;go_roundg (p.1.parts.length-(t+1));case measure=>omega
     case rel=>exact⟨t+1,_,rfl,by go_num,by omega,HN⟩
    ·have ah:¬(t:Int)<p.1.parts.length:=by omega
     have y:i=ZI false c (p.1.parts.map λp=>d.getD p false):=by rw[b.out.join,List.drop_eq_nil_of_le (show c.length<=t by omega)];simp[ZI]
     have H:=z6 y;clear y;go_wp2_with fail;go_ret;have ab:=Zn b.out.out (show g.heap.size<=g.heap.size+1 by omega);have a9:=H.out;subst a9;exact⟨_,rfl,ab,b.out.below⟩
def Q1(w:World)(B:Nat)(v:Value)(c:List Nat):Prop:=∃d b e a,v=.slice d c.length a/\Came w 1 d b e c.length a (c.map Zq)/\(0<a->B<=b)/\a<=maxLen
theorem Q1.ofInts{w:World}{B:Nat}{v:Value}{a:List Nat}(h:Ints w B v a):Q1 w B v a:=by
 have k:=h;rcases k.2 with⟨rfl,l⟩|⟨e,f,i,rfl,o,c,m,n,p,q⟩;·have:a=[]:=List.length_eq_zero_iff.1 l;subst this;exact⟨N,0,0,0,rfl,⟨Nat.le_refl _,λh=>absurd h (by omega),λh=>absurd h (by omega),rfl,λj u b=>by simp at b,λj d=>by simp at d⟩,λh=>absurd h (by omega),by omega⟩
 ·refine⟨_,e,0,f,rfl,⟨m,λ_=>rfl,λ_=>za c,by simp,?_,?_⟩,λ_=>o,n⟩
  ·intro j u b;have d:j<a.length:=by have:=(List.getElem?_eq_some_iff.1 b).1;simpa using this
   have:=h.cellAt (g:=e) j (by omega);rw[Nat.zero_add,this];exact b
  ·intro j d;refine⟨?_,zi c _⟩;rw[z8 c];have:0+a.length *1+j<i.size:=by omega
   rw[Array.getElem?_eq_getElem this];rfl
theorem Q1.kept{w w':World}{B:Nat}{v:Value}{e:List Nat}(h:Q1 w B v e)(d:Below w.heap.size w w'):Q1 w' B v e:=by
 obtain⟨l,b,k,m,n,c,o,p⟩:=h;refine⟨l,b,k,m,n,⟨c.le,c.addr,λh=>Nat.lt_of_lt_of_le (c.lt h) d.size,c.oldsLen,?_,?_⟩,o,p⟩
 ·intro j u i;have g:j<e.length:=by have:=(List.getElem?_eq_some_iff.1 i).1;simpa using this
  rw[World.cell?_of_block (a:=⟨b,k+j,N⟩) (d.block b (c.lt (by have:=c.le;omega)))];exact c.olds j u i
 ·intro j g;have:=c.spare j g;have f:=d.block b (c.lt (by omega));rw[World.cell?_of_block (a:=⟨b,_,N⟩) f,World.frozen?_of_block (a:=⟨b,_,N⟩) f];exact this
theorem Q1.tail{w:World}{B:Nat}{k:Nat}{f:List Nat}{v:Value}(h:Q1 w B v (k::f)):∃b a d,v=.slice (S ⟨b,a,N⟩) (f.length+1) (d+1)/\B<=b/\b<w.heap.size/\w.cell? ⟨b,a,N⟩=S (I J k)/\d+1<=maxLen/\f.length<=d/\Q1 w B (.slice (S ⟨b,a+1,N⟩) f.length d) f:=by
 obtain⟨q,b,a,d,l,e,g,m⟩:=h;have o:=e.le;simp only[List.length_cons]at o;obtain⟨c,rfl⟩:∃c,d=c+1:=⟨d-1,by omega⟩;have n:=e.addr (by omega);subst n;have i:=e.olds 0 (Zq k) (by simp);refine⟨b,a,c,by rw[l];rfl,g (by omega),e.lt (by omega),i,m,by omega,⟨_,b,a+1,c,rfl,⟨by omega,λ_=>rfl,λ_=>e.lt (by omega),by simp,?_,?_⟩,λ_=>g (by omega),by omega⟩⟩;·intro j u p;have:=e.olds (j+1) u (by simpa using p);rw[show a+1+j=a+(j+1)from by omega];exact this
 ·intro j r;have:=e.spare j (by simp only[List.length_cons];omega);simp only[List.length_cons]at this;rw[show a+1+f.length *1+j=a+(f.length+1) *1+j from by omega];exact this
theorem zar(b:Nat):∀(a:List Value) (o:Nat) (w:World),(w.setCells b o a).tape=w.tape/\(w.setCells b o a).heap.size=w.heap.size
 |[],_,_=>⟨rfl,rfl⟩
 |v::r,o,w=>by have:=zar b r (o+1) (w.setCell ⟨b,o,N⟩ v);simp only[World.setCells];exact⟨this.1,by rw[this.2];simp⟩
structure Fr(B:Nat)(w w':World):Prop where
 os:w'.os=w.os
 tape:w'.tape=w.tape
 output:w'.output=w.output
 size:w.heap.size<=w'.heap.size
 block:∀k,k<w.heap.size->k<B->w'.heap[k]?=w.heap[k]?
theorem zfu{b:List Nat}:∀u∈b.map Zq,u.oneCell'=true:=by intro u a;obtain⟨n,_,rfl⟩:=List.mem_map.1 a;rfl
theorem Ints.src{w:World}{B:Nat}{v:Value}{a:List Nat}(h:Ints w B v a):Src P 1 40 v a.length (a.map Zq) w:=by
 have d:=h;rcases d.2 with⟨rfl,e⟩|⟨b,f,i,rfl,o,p,k,l,m,n⟩;·have:a=[]:=List.length_eq_zero_iff.1 e;subst this;exact Src.ofNil w underlying40 0
 ·refine Src.ofSlice w underlying40 ⟨b,0,N⟩ _ _ _ (by simp) ?_ zfu;intro j u c;have q:j<a.length:=by have:=(List.getElem?_eq_some_iff.1 c).1;simpa using this
  have:=h.cellAt (g:=b) j (by omega);rw[show(Addr.add ⟨b,0,N⟩ j)=⟨b,j,N⟩from by unfold Addr.add;split<;>simp_all,this];exact c
theorem ziw{w:World}{B M:Nat}{v q:Value}{c d:List Nat}(s:TypeId)(h:Q1 w B v c)(hx:Ints w M q d)(hb:c.length+d.length<=200000)(U:B<=w.heap.size):∃L F,(Builtin.append_ #[40,40] s #[v,q]).run prog w=.ok L F/\Q1 F B L (c++d)/\Fr B w F:=by
 obtain⟨f,z,a2,n,a3⟩:=info_parts infoInt;obtain⟨o,b,e,g,rfl,l,x,H⟩:=h;have r:=hx.src;rw[<-n]at r;have a5:=l.le;by_cases X:c.length+d.length<=g
 ·rcases Nat.eq_zero_or_pos g with G|p;·subst G;have t:c=[]:=List.length_eq_zero_iff.1 (by omega);have O:d=[]:=List.length_eq_zero_iff.1 (by omega);subst t;subst O;exact⟨_,_,run_append_nothing (P:=prog) w 40 40 s 3 f underlying40 z o 0 0 (by omega) q r,⟨o,b,e,0,rfl,l,x,H⟩,⟨rfl,rfl,rfl,Nat.le_refl _,λ_ _ _=>rfl⟩⟩
  ·have y:=l.addr p;subst y;have E:∀j,j<(d.map Zq).length->(w.cell? ⟨b,e+c.length *f.size+j,N⟩).isSome=true/\w.frozen? ⟨b,e+c.length *f.size+j,N⟩=false:=by intro j i;rw[n];exact l.spare j (by simp at i;omega)
   have D:=run_append_room_src (P:=prog) w 40 40 s 3 f underlying40 z b e c.length g q d.length (d.map Zq) r X (λj i=>(E j i).1) (λj i=>(E j i).2);obtain⟨ht,K⟩:=zar b (d.map Zq) (e+c.length *f.size) w;refine⟨_,_,D,⟨_,b,e,g,by rw[List.length_append],⟨by rw[List.length_append];omega,λ_=>rfl,λ_=>by rw[K];exact l.lt p,by simp,?_,?_⟩,x,H⟩,⟨World.os_setCells _ _ _ _,ht,World.output_setCells _ _ _ _,by rw[K];exact Nat.le_refl _,λk A a4=>World.heap_setCells_other _ _ _ _ A (by have:=x p;omega)⟩⟩
   ·intro j u m;rw[List.map_append]at m;by_cases i:j<c.length;·rw[World.cell?_setCells_out b _ _ _ _ (λ_ _=>Or.inl (by show e+j<_;rw[n];omega))];rw[List.getElem?_append_left (by simpa using i)]at m;exact l.olds j u m
    ·rw[List.getElem?_append_right (by simp;omega)]at m;simp only[List.length_map]at m;obtain⟨Z,a1⟩:=List.getElem?_eq_some_iff.1 m;have:=World.cell?_setCells_in b (d.map Zq) (e+c.length *f.size) w (λj i=>(E j i).1) (j-c.length) Z;rw[show e+c.length *f.size+(j-c.length)=e+j from by rw[n];omega]at this;rw[this,a1]
   ·intro j i;simp only[List.length_append]at i|-;rw[World.frozen?_setCells,World.cell?_setCells_out b _ _ _ _ (λ_ _=>Or.inr (by show _<=e+(c.length+d.length) *1+j;rw[n];simp;omega))];have:=l.spare (d.length+j) (by omega);rw[show e+(c.length+d.length) *1+j=e+c.length *1+(d.length+j)from by omega];exact this
 ·have J:g<c.length+d.length:=by omega
  have a0:(Builtin.firstCells f.size c.length (.slice o c.length g)).run prog w.drew=.ok (c.map Zq).toArray w.drew:=by
   rcases Nat.eq_zero_or_pos g with G|p
   ·have t:c=[]:=List.length_eq_zero_iff.1 (by omega);subst t;cases o with
    |none=>exact run_firstCells_none w.drew f.size 0 0 g|some a=>exact run_firstCells_some w.drew f.size 0 a 0 g [] (by simp) (by simp)
   ·have y:=l.addr p;subst y;refine run_firstCells_some w.drew f.size c.length ⟨b,e,N⟩ _ _ _ (by simp[n]) ?_;intro j u m;rw[Addr.add_lit];exact l.olds j u m
  have V:(c.length+d.length) *f.bytes<=140737488355328:=by rw[a3];omega
  have D:=run_append_grow_src (P:=prog) w 40 40 s 3 f _ underlying40 z a2 o c.length g (c.map Zq) a0 q d.length (d.map Zq) r J (by omega) (growslice_fits J V);have Y:=grownCap_ge w (c.length+d.length) g 3;have W:=grownCap_le_maxLen w (c.length+d.length) g 3 (by unfold maxLen;omega);refine⟨_,_,D,Q1.ofInts ⟨by simp,.inr ⟨w.heap.size,_,_,by rw[List.length_append],U,zk w.drew _,by rw[List.length_append];exact Y,W,?_,?_⟩⟩,⟨rfl,rfl,rfl,by simp,λk A _=>Below.heap_alloc w.drew _ k A⟩⟩;·have R:(Value.int IntKind.i64 0).cells.size=1:=rfl;rw[Array.size_append,List.size_toArray,size_zeroCells,R];simp;omega
  ·simp[<-List.map_append]
end
end Go.Proofs.YtiganlkabilblaaGreatDoor
