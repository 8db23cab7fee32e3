import Derived.Test.YtiganlkabilblaaGreatDoorV17
import Derived.Deep.QuietTactic
import Derived.BigQuiet
import Derived.RegionTactic
import Derived.BigRegion
import Derived.Deep.RegionHeld
set_option linter.all false
set_option maxHeartbeats 64000000
set_option maxRecDepth 100000
namespace Go.Proofs.YtiganlkabilblaaGreatDoor
open Tryz
open Tryz renaming prog->P
open Option renaming some->S,none->N
open Value renaming int->I
open IntKind renaming i64->J
section
open Go.RowKit
attribute [local go_sem ↓] Go.wp_at_zero Go.wp_at_succ
theorem zu6(B t:Nat)(H G:Value)(a:List (RE×Value×Value))(d:List (z7×Nat))(k q:Nat)(F:Bool)(j:(zK a)[k]?=S ⟨6,[],[],0,[q]⟩)(i:(zK a)[q]?=S ⟨5,[],[],0,[]⟩):zrK B t H G a d k F [40,41]:=by
 intro w h;obtain⟨l,xc,ia,ic,pa,pc,O,rfl,Z,b,m,n,e,o,W,X,g,u⟩:=h.exq j;obtain⟨a5,a4,a0,a1,a2,a3,R,D,E,c,p,r,f,s,z,A,x,v⟩:=h.exq i;cases D;have M:=h.lt;have qq:=z8 h.blk;have U:(k:Int)<a.length:=by omega
 have Y:(q:Int)<a.length:=by omega
 obtain⟨pg,rfl,V,y⟩:=g 0 (by simp);simp only[List.length_nil,List.length_singleton,List.getElem_cons_zero]at b m n e o c p r f s y;have K:w.cell? ⟨l,k *5,N⟩=S (I J 6):=b;have L:w.cell? ⟨l,q *5,N⟩=S (I J 5):=c;generalize rfE (zj d) _ 0=z1 at e;generalize rfE (zj d) _ 0=z2 at f;clear j i h u v g x b c E z A;go_enter func147,ntmps147;go_wp2_with fail;go_region;all_goals go_wp2_with fail
 all_goals go_ret;exact⟨rfl,by repeat(first|exact Below.refl _ _|refine Below.drew ?_|refine Below.alloc ?_ (by simp;try omega) _)⟩
theorem zt7(s:z7):(ByteArray.mk #[40]++ByteArray.mk s.toArray)++ByteArray.mk #[41]=ByteArray.mk (40::(s++[41])).toArray:=by rw[show(ByteArray.mk #[40])=ByteArray.mk ([40]:z7).toArray from rfl,show(ByteArray.mk #[41])=ByteArray.mk ([41]:z7).toArray from rfl,zpx,zpx];rfl
theorem zt8{s:z7}(b:s.length<=600000):(ByteArray.mk s.toArray).size<=600000/\(ByteArray.mk #[40]++ByteArray.mk s.toArray).size<=600001:=by
 have a:(ByteArray.mk s.toArray).size<=600000:=by show s.toArray.size<=_;simpa using b
 exact⟨a,by rw[ByteArray.size_append,show(ByteArray.mk #[40]).size=1 from rfl];omega⟩
theorem zu0(B t:Nat)(F E:Value)(c:List (RE×Value×Value))(g:List (z7×Nat))(k q:Nat)(d f:List Nat)(sg:Bool)(s:z7)(D:(zK c)[k]?=S ⟨6,[],[],0,q::d⟩)(A:(zK c)[q]?=S ⟨5,[],[],0,f⟩)(a:d≠[]\/1<f.length)(x:s.length<=600000)(u:zsP B t F E c g k s):zrK B t F E c g k sg (40::(s++[41])):=by
 intro w h;obtain⟨G,xc,ia,ic,pa,pc,hi,rfl,aj,l,H,K,p,L,ag,a3,y,X⟩:=h.exq D;obtain⟨av,au,ao,ap,aq,ar,ad,hv,a4,m,O,R,r,U,a2,z,a0,Y⟩:=h.exq A;cases hv;have ab:=h.lt;have qq:=z8 h.blk;have ae:(k:Int)<c.length:=by omega
 have ai:(q:Int)<c.length:=by omega
 obtain⟨pg,rfl,af,a1⟩:=y 0 (by simp);simp only[List.length_nil,List.length_cons,List.getElem_cons_zero]at l H K p L m O R r U a1 a3;have a5:w.cell? ⟨G,k *5,N⟩=S (I J 6):=l;have a6:w.cell? ⟨G,q *5,N⟩=S (I J 5):=m;generalize rfE (zj g) _ 0=z1 at p;generalize rfE (zj g) _ 0=z2 at r;have v:=λW V=>u W (h.below V);have Z:1<d.length+1\/(d.length+1=1/\1<f.length):=by
  rcases a with a|a;·exact .inl (by have:=List.length_pos_iff.2 a;omega)
  ·by_cases h0:d.length=0;·exact .inr ⟨by omega,a⟩
   ·exact .inl (by omega)
 obtain⟨ak,al⟩:=zt8 x;have am:(ByteArray.mk #[40]).size=1:=rfl;have an:(ByteArray.mk #[41]).size=1:=rfl;have o:=z6 (zt7 s);have ah:f.length<=9223372036854775807:=z;clear D A X Y y a0 l m a4 a2 z u a x;generalize d.length+1=j at *;generalize f.length=M at *;have n:=z6 v;clear h v;rcases Z with hN|⟨rfl,hM⟩
 ·have a8:(1:Int)<j:=by omega
  have a9:(0:Int)<j:=by omega
  have aa:0<j:=by omega
  go_enter func147,ntmps147;go_wp2_with fail;go_region;all_goals go_wp2_with fail
  all_goals refine(n.out _ (by repeat(first|exact Below.refl _ _|refine Below.drew ?_|refine Below.alloc ?_ (by simp;try omega) _))).mono ?_;rintro _ w1⟨rfl,e⟩;have i:=z6 ((show Below w.heap.size w _ by repeat(first|exact Below.refl _ _|refine Below.drew ?_|refine Below.alloc ?_ (by simp;try omega) _)).trans (e.mono (by simp;omega)));clear e;go_wp2_with fail;go_ret;exact⟨congrArg (λb=>Ending.returned (Value.string b)) o.out,i.out⟩
 ·have a7:(1:Int)<M:=by omega
  go_enter func147,ntmps147;go_wp2_with fail;go_region;all_goals go_wp2_with fail
  all_goals refine(n.out _ (by repeat(first|exact Below.refl _ _|refine Below.drew ?_|refine Below.alloc ?_ (by simp;try omega) _))).mono ?_;rintro _ w1⟨rfl,e⟩;have i:=z6 ((show Below w.heap.size w _ by repeat(first|exact Below.refl _ _|refine Below.drew ?_|refine Below.alloc ?_ (by simp;try omega) _)).trans (e.mono (by simp;omega)));clear e;go_wp2_with fail;go_ret;exact⟨congrArg (λb=>Ending.returned (Value.string b)) o.out,i.out⟩
theorem zum{k:Nat}(h:¬(7<=k/\k<=11)):zs5 k=[]:=by unfold zs5;rw[if_neg (by omega),if_neg (by omega),if_neg (by omega),if_neg (by omega),if_neg (by omega)]
theorem zun{k:Nat}(a:7<=k)(b:k<=11):∃c,zs5 k=[c]:=by
 unfold zs5;repeat' split
 all_goals first|exact⟨_,rfl⟩|omega
theorem zu5(B l:Nat)(E D:Value)(a:List (RE×Value×Value))(b:List (z7×Nat))(k q t:Nat)(e:RE)(A:Bool)(s:z7)(z:(zK a)[k]?=S ⟨6,[],[],0,[q]⟩)(v:(zK a)[q]?=S ⟨5,[],[],0,[t]⟩)(y:(zK a)[t]?=S e)(p:¬(7<=e.kind/\e.kind<=11))(m:zrK B l E D a b t A s):zrK B l E D a b k A s:=by
 intro w h;obtain⟨F,xc,ia,ic,pa,pc,hi,rfl,am,c,M,O,i,R,ai,aj,r,a0⟩:=h.exq z;obtain⟨a8,a7,ao,aq,au,aw,ad,f,a6,d,U,V,j,X,a4,a5,u,a1⟩:=h.exq v;cases f;obtain⟨a8,a7,ap,ar,av,ax,ae,f,an,e0,Y,Z,e3,e4,_,_,_,_⟩:=h.exq y;cases f;have ab:=h.lt;have qq:=z8 h.blk;have af:(k:Int)<a.length:=by omega
 have ak:(q:Int)<a.length:=by omega
 have al:(t:Int)<a.length:=by omega
 obtain⟨pg,rfl,ag,a2⟩:=r 0 (by simp);obtain⟨ay,rfl,ah,a3⟩:=u 0 (by simp);simp only[List.length_nil,List.length_singleton,List.getElem_cons_zero]at c M O i R d U V j X a2 a3;have a9:w.cell? ⟨F,k *5,N⟩=S (I J 6):=c;have aa:w.cell? ⟨F,q *5,N⟩=S (I J 5):=d;generalize rfE (zj b) _ 0=z1 at i;generalize rfE (zj b) _ 0=z2 at j;have o:=λW hb=>m W (h.below hb);have x:∀W,Calls P 108 #[I J e.kind] W λe w'=>e=.returned (.string ⟨#[]⟩)/\w'=W:=by intro W;have:=zsK e.kind W;rw[zum p]at this;exact this
 have L:=z6 x;have H:=z6 o;generalize e.kind=K at *;clear z v y h a0 a1 r u c d a6 a4 a5 m o x p Y Z e3 e4;go_enter func147,ntmps147;go_wp2_with fail;go_region;all_goals go_wp2_with fail
 all_goals refine(L.out _).mono ?_;rintro _ w1⟨rfl,g⟩;replace g:=g.symm;subst g;go_wp2_with fail;refine(H.out _ (by repeat(first|exact Below.refl _ _|refine Below.drew ?_|refine Below.alloc ?_ (by simp;try omega) _))).mono ?_;rintro _ w1⟨rfl,n⟩;have G:=z6 ((show Below w.heap.size w _ by repeat(first|exact Below.refl _ _|refine Below.drew ?_|refine Below.alloc ?_ (by simp;try omega) _)).trans (n.mono (by simp;omega)));clear n;go_wp2_with fail;go_ret;exact⟨rfl,G.out⟩
theorem zu4(B x:Nat)(R O:Value)(a:List (RE×Value×Value))(g:List (z7×Nat))(k q t:Nat)(e:RE)(n:Bool)(s:z7)(M:(zK a)[k]?=S ⟨6,[],[],0,[q]⟩)(G:(zK a)[q]?=S ⟨5,[],[],0,[t]⟩)(L:(zK a)[t]?=S e)(a0:7<=e.kind)(a1:e.kind<=11)(D:s.length<=600000)(y:zsw B x R O a g t s):zrK B x R O a g k n (if n then 40::(s++[41])else s):=by
 intro w h;obtain⟨U,xc,ia,ic,pa,pc,hi,rfl,aq,j,X,Y,u,Z,am,an,E,a2⟩:=h.exq M;obtain⟨ab,aa,ay,aA,aC,aE,ag,m,a9,l,d1,d2,v,d4,a6,a7,F,a3⟩:=h.exq G;cases m;obtain⟨ab,aa,az,aB,aD,aF,ah,m,ar,e0,e1,e2,e3,e4,_,_,_,_⟩:=h.exq L;cases m;have af:=h.lt;have qq:=z8 h.blk;have ai:(k:Int)<a.length:=by omega
 have ao:(q:Int)<a.length:=by omega
 have ap:(t:Int)<a.length:=by omega
 obtain⟨pg,rfl,ak,a4⟩:=E 0 (by simp);obtain⟨aG,rfl,al,a5⟩:=F 0 (by simp);simp only[List.length_nil,List.length_singleton,List.getElem_cons_zero]at j X Y u Z l d1 d2 v d4 a4 a5;have ad:w.cell? ⟨U,k *5,N⟩=S (I J 6):=j;have ae:w.cell? ⟨U,q *5,N⟩=S (I J 5):=l;generalize rfE (zj g) _ 0=z1 at u;generalize rfE (zj g) _ 0=z2 at v;have A:=λW hb=>y W (h.below hb);obtain⟨c,z⟩:=zun a0 a1;have H:∀W,Calls P 108 #[I J e.kind] W λe w'=>e=.returned (.string ⟨#[c]⟩)/\w'=W:=by intro W;have:=zsK e.kind W;rw[z]at this;exact this
 have a8:(ByteArray.mk #[c]).toList=[c]:=by rw[ByteArray.toList_eq]
 have aj:((ByteArray.mk #[c]).toList==(ByteArray.mk #[]).toList)=false:=by rw[a8,ByteArray.toList_eq];rfl
 obtain⟨au,av⟩:=zt8 D;have aw:(ByteArray.mk #[40]).size=1:=rfl;have ax:(ByteArray.mk #[41]).size=1:=rfl;have V:=z6 (zt7 s);have r:=z6 H;have p:=z6 A;generalize e.kind=K at *;clear M G L h a2 a3 E F j l a9 a6 a7 y A H e1 e2 e3 e4 z D;cases n with
 |true=>
  go_enter func147,ntmps147;go_wp2_with fail;go_region;all_goals go_wp2_with fail
  all_goals refine(r.out _).mono ?_;rintro _ o⟨rfl,d⟩;replace d:=d.symm;subst d;go_wp2_with fail;refine(p.out _ (by repeat(first|exact Below.refl _ _|refine Below.drew ?_|refine Below.alloc ?_ (by simp;try omega) _))).mono ?_;rintro _ o⟨rfl,f⟩;have i:=z6 ((show Below w.heap.size w _ by repeat(first|exact Below.refl _ _|refine Below.drew ?_|refine Below.alloc ?_ (by simp;try omega) _)).trans (f.mono (by simp;omega)));clear f;go_wp2_with fail;go_ret;exact⟨congrArg (λb=>Ending.returned (Value.string b)) V.out,i.out⟩
 |false=>
  go_enter func147,ntmps147;go_wp2_with fail;go_region;all_goals go_wp2_with fail
  all_goals refine(r.out _).mono ?_;rintro _ o⟨rfl,d⟩;replace d:=d.symm;subst d;go_wp2_with fail;refine(p.out _ (by repeat(first|exact Below.refl _ _|refine Below.drew ?_|refine Below.alloc ?_ (by simp;try omega) _))).mono ?_;rintro _ o⟨rfl,f⟩;have i:=z6 ((show Below w.heap.size w _ by repeat(first|exact Below.refl _ _|refine Below.drew ?_|refine Below.alloc ?_ (by simp;try omega) _)).trans (f.mono (by simp;omega)));clear f;go_wp2_with fail;go_ret;exact⟨rfl,i.out⟩
theorem zu9(B b:Nat)(l j:Value)(a:List (RE×Value×Value))(i:List (z7×Nat))(k:Nat)(e:RE)(s:z7)(g:(zK a)[k]?=S e)(u:¬(e.kind=10\/e.kind=11))(d:zsv B b l j a i k false s):zsw B b l j a i k s:=by
 intro w h;obtain⟨Z,Y,O,R,U,V,J,rfl,N,z,A,D,E,F,L,M,v,t⟩:=h.exq g;have G:=h.lt;have q:=z8 h.blk;have H:(k:Int)<a.length:=by omega
 have f:=λW r=>d W (h.below r);have n:=z6 f;generalize e.kind=K at *;have o:¬(K:Int)=10:=by omega
 have p:¬(K:Int)=11:=by omega
 have x:((K:Int)==10)=false:=by simpa using o
 have y:((K:Int)==11)=false:=by simpa using p
 clear g h d f u t v;go_enter func72,ntmps72;go_wp2_with fail;refine(n.out _ (zc _ _)).mono ?_;rintro _ X⟨rfl,c⟩;have m:=z6 ((zc w _).trans (c.mono (by simp)));clear c;go_wp2_with fail;go_ret;exact⟨rfl,m.out⟩
theorem ztU(B b:Nat)(m l:Value)(a:List (RE×Value×Value))(i:List (z7×Nat))(k:Nat)(e:RE)(j:Bool)(s:z7)(g:(zK a)[k]?=S e)(x:¬(7<=e.kind/\e.kind<=9))(d:zrK B b m l a i k j s):zsv B b m l a i k j s:=by
 intro w h;obtain⟨xg,xc,V,X,Y,Z,N,rfl,U,E,F,G,H,J,O,R,y,v⟩:=h.exq g;have L:=h.lt;have q:=z8 h.blk;have M:(k:Int)<a.length:=by omega
 have f:=λW u=>d W (h.below u);have o:=z6 f;generalize e.kind=K at *;have p:¬(K:Int)=7:=by omega
 have r:¬(K:Int)=8:=by omega
 have t:¬(K:Int)=9:=by omega
 have z:((K:Int)==7)=false:=by simpa using p
 have A:((K:Int)==8)=false:=by simpa using r
 have D:((K:Int)==9)=false:=by simpa using t
 clear g h d f x v y;go_enter func109,ntmps109;go_wp2_with fail;refine(o.out _ (zc _ _)).mono ?_;rintro _ w1⟨rfl,c⟩;have n:=z6 ((zc w _).trans (c.mono (by simp)));clear c;go_wp2_with fail;go_ret;exact⟨rfl,n.out⟩
theorem zt9{a b:z7}(c:a.length<=600000)(d:b.length<=600000):(ByteArray.mk a.toArray).size<=600000/\(ByteArray.mk b.toArray).size<=600000:=⟨by show a.toArray.size<=_;simpa using c,by show b.toArray.size<=_;simpa using d⟩
theorem zua(B gb:Nat)(vx vr:Value)(x:List (RE×Value×Value))(R:List (z7×Nat))(k i:Nat)(d:UInt8)(s:z7)(hx:(zK x)[k]?=S (zy (zE [d]) i))(a3:d=38\/d=33)(H:s.length<=600000)(hi:zsv B gb vx vr x R i true s):zsw B gb vx vr x R k (d::s):=by
 intro w h;obtain⟨xg,xc,u,v,pa,m,ad,rfl,ag,c0,c1,c2,c3,c4,ae,af,a4,a7⟩:=h.exq hx;have aa:=h.lt;have q:=z8 h.blk;have ab:(k:Int)<x.length:=by omega
 obtain⟨c,rfl,a5,M⟩:=a4 0 (by simp[zy]);simp only[zy,List.length_nil,List.length_singleton,List.getElem_cons_zero]at c0 c1 c2 c3 c4 M;generalize rfE (zj R) _ 0=y at c3;have a2:=λW hb=>hi W (h.below hb);obtain⟨ah,_⟩:=zt9 H H;have ai:(ByteArray.mk #[d]).size=1:=rfl;have a8:∀W:World,(Op.stringOp .add ⟨#[d]⟩ ⟨s.toArray⟩).run P W=.ok (.string ⟨(d::s).toArray⟩) W:=by intro W;rw[run_string_add_sum W _ _ (by omega)];exact congrArg (λb=>Result.ok (Value.string b) W) (zpx [d] s)
 have Z:=z6 a2;have F:(zE [d]=10\/zE [d]=11)/\zs5 (zE [d])=[d]:=by rcases a3 with rfl|rfl<;>decide
 have a6:∀W,Calls P 108 #[I J (zE [d])] W λe j=>e=.returned (.string ⟨#[d]⟩)/\j=W:=by intro W;have:=zsK (zE [d]) W;rw[F.2]at this;exact this
 have a0:=z6 a6;have a1:=F.1;clear hx h hi a2 a7 a4 a3 a6 F H;generalize zE [d]=K at *;have a9:((K:Int)==10||(K:Int)==11)=true:=by rcases a1 with rfl|rfl<;>rfl
 rcases a1 with rfl|rfl
 ·go_enter func72,ntmps72;go_wp2_with fail;obtain⟨X,f⟩:∃X,X=w.alloc (.cells #[I J 10,.slice u 0 v,.string ⟨#[]⟩,I J y,.slice (S ⟨c,0,N⟩) 1 m] 149):=⟨_,rfl⟩;rw[<-f];have n:Below w.heap.size w X:=by rw[f];exact zc _ _
  have o:X.heap[w.heap.size]?=S (.cells #[I J 10,.slice u 0 v,.string ⟨#[]⟩,I J y,.slice (S ⟨c,0,N⟩) 1 m] 149 (0,0)):=by rw[f];exact zk _ _
  have G:X.heap.size=w.heap.size+1:=by rw[f];simp
  have U:X.cell? ⟨w.heap.size,0,N⟩=S (I J 10):=z8 o 0;have V:X.cell? ⟨w.heap.size,4,N⟩=S (.slice (S ⟨c,0,N⟩) 1 m):=z8 o 4;have Y:X.cell? ⟨c,0,N⟩=S (I J i):=by rw[World.cell?_of_block (a:=⟨c,0,N⟩) (n.block c a5)];exact M
  have O:w.heap.size<X.heap.size:=by omega
  have L:c<X.heap.size:=by omega
  have t:=z6 n;have A:=z6 U;have D:=z6 V;have E:=z6 Y;have l:=z6 (And.intro O L);clear f n o G;go_region_held (λj=>j.cell? ⟨w.heap.size,0,N⟩=S (I J 10)/\j.cell? ⟨w.heap.size,4,N⟩=S (.slice (S ⟨c,0,N⟩) 1 m)/\j.cell? ⟨c,0,N⟩=S (I J i)) (go_keep) (first|(go_at_call 108;refine(a0.out _).mono ?_;rintro _ j⟨rfl,r⟩;replace r:=r.symm;subst r)|(go_at_call 109;refine(Z.out X.drew t.out.drew).mono ?_;rintro _ w5⟨rfl,g⟩;have s1:=(g.cell (p:=⟨w.heap.size,0,N⟩) l.out.1).trans A.out;have s2:=(g.cell (p:=⟨w.heap.size,4,N⟩) l.out.1).trans D.out;have s3:=(g.cell (p:=⟨c,0,N⟩) l.out.2).trans E.out;have z:=z6 (t.out.drew.trans (g.mono (show w.heap.size<=X.heap.size from Nat.le_of_lt l.out.1)));clear g));all_goals go_wp2_with fail
  all_goals go_ret;exact⟨rfl,z.out⟩
 ·go_enter func72,ntmps72;go_wp2_with fail;obtain⟨X,f⟩:∃X,X=w.alloc (.cells #[I J 11,.slice u 0 v,.string ⟨#[]⟩,I J y,.slice (S ⟨c,0,N⟩) 1 m] 149):=⟨_,rfl⟩;rw[<-f];have n:Below w.heap.size w X:=by rw[f];exact zc _ _
  have o:X.heap[w.heap.size]?=S (.cells #[I J 11,.slice u 0 v,.string ⟨#[]⟩,I J y,.slice (S ⟨c,0,N⟩) 1 m] 149 (0,0)):=by rw[f];exact zk _ _
  have G:X.heap.size=w.heap.size+1:=by rw[f];simp
  have U:X.cell? ⟨w.heap.size,0,N⟩=S (I J 11):=z8 o 0;have V:X.cell? ⟨w.heap.size,4,N⟩=S (.slice (S ⟨c,0,N⟩) 1 m):=z8 o 4;have Y:X.cell? ⟨c,0,N⟩=S (I J i):=by rw[World.cell?_of_block (a:=⟨c,0,N⟩) (n.block c a5)];exact M
  have O:w.heap.size<X.heap.size:=by omega
  have L:c<X.heap.size:=by omega
  have t:=z6 n;have A:=z6 U;have D:=z6 V;have E:=z6 Y;have l:=z6 (And.intro O L);clear f n o G;go_region_held (λj=>j.cell? ⟨w.heap.size,0,N⟩=S (I J 11)/\j.cell? ⟨w.heap.size,4,N⟩=S (.slice (S ⟨c,0,N⟩) 1 m)/\j.cell? ⟨c,0,N⟩=S (I J i)) (go_keep) (first|(go_at_call 108;refine(a0.out _).mono ?_;rintro _ j⟨rfl,r⟩;replace r:=r.symm;subst r)|(go_at_call 109;refine(Z.out X.drew t.out.drew).mono ?_;rintro _ w5⟨rfl,g⟩;have s1:=(g.cell (p:=⟨w.heap.size,0,N⟩) l.out.1).trans A.out;have s2:=(g.cell (p:=⟨w.heap.size,4,N⟩) l.out.1).trans D.out;have s3:=(g.cell (p:=⟨c,0,N⟩) l.out.2).trans E.out;have z:=z6 (t.out.drew.trans (g.mono (show w.heap.size<=X.heap.size from Nat.le_of_lt l.out.1)));clear g));all_goals go_wp2_with fail
  all_goals go_ret;exact⟨rfl,z.out⟩
theorem ztV(B gb:Nat)(vx vr:Value)(R:List (RE×Value×Value))(rs:List (z7×Nat))(k i:Nat)(d:UInt8)(sg:Bool)(s:z7)(hx:(zK R)[k]?=S (zy (zE [d]) i))(a2:d=63\/d=42\/d=43)(Z:s.length<=600000)(hi:zrK B gb vx vr R rs i true s):zsv B gb vx vr R rs k sg (s++[d]):=by
 intro w h;obtain⟨xg,xc,u,v,pa,m,aa,rfl,ae,c0,c1,c2,c3,c4,ab,ad,a3,a6⟩:=h.exq hx;have a8:=h.lt;have q:=z8 h.blk;have a9:(k:Int)<R.length:=by omega
 obtain⟨c,rfl,a0,O⟩:=a3 0 (by simp[zy]);simp only[zy,List.length_nil,List.length_singleton,List.getElem_cons_zero]at c0 c1 c2 c3 c4 O;generalize rfE (zj rs) _ 0=x at c3;have a1:=λW hb=>hi W (h.below hb);obtain⟨af,_⟩:=zt9 Z Z;have ag:(ByteArray.mk #[d]).size=1:=rfl;have a7:∀W:World,(Op.stringOp .add ⟨s.toArray⟩ ⟨#[d]⟩).run P W=.ok (.string ⟨(s++[d]).toArray⟩) W:=by intro W;rw[run_string_add_sum W _ _ (by omega)];exact congrArg (λb=>Result.ok (Value.string b) W) (zpx s [d])
 have U:=z6 a1;have Y:(zE [d]=7\/zE [d]=8\/zE [d]=9)/\zs5 (zE [d])=[d]:=by rcases a2 with rfl|rfl|rfl<;>decide
 have a4:∀W,Calls P 108 #[I J (zE [d])] W λe j=>e=.returned (.string ⟨#[d]⟩)/\j=W:=by intro W;have:=zsK (zE [d]) W;rw[Y.2]at this;exact this
 have V:=z6 a4;have a5:=Y.1;clear hx h hi a1 a6 a3 a2 a4 Y Z;generalize zE [d]=K at *;rcases a5 with rfl|rfl|rfl
 ·go_enter func109,ntmps109;go_wp2_with fail;obtain⟨X,f⟩:∃X,X=w.alloc (.cells #[I J 7,.slice u 0 v,.string ⟨#[]⟩,I J x,.slice (S ⟨c,0,N⟩) 1 m] 149):=⟨_,rfl⟩;rw[<-f];have n:Below w.heap.size w X:=by rw[f];exact zc _ _
  have o:X.heap[w.heap.size]?=S (.cells #[I J 7,.slice u 0 v,.string ⟨#[]⟩,I J x,.slice (S ⟨c,0,N⟩) 1 m] 149 (0,0)):=by rw[f];exact zk _ _
  have E:X.heap.size=w.heap.size+1:=by rw[f];simp
  have H:X.cell? ⟨w.heap.size,0,N⟩=S (I J 7):=z8 o 0;have L:X.cell? ⟨w.heap.size,4,N⟩=S (.slice (S ⟨c,0,N⟩) 1 m):=z8 o 4;have M:X.cell? ⟨c,0,N⟩=S (I J i):=by rw[World.cell?_of_block (a:=⟨c,0,N⟩) (n.block c a0)];exact O
  have G:w.heap.size<X.heap.size:=by omega
  have F:c<X.heap.size:=by omega
  have t:=z6 n;have z:=z6 H;have A:=z6 L;have D:=z6 M;have l:=z6 (And.intro G F);clear f n o E;go_region_held (λj=>j.cell? ⟨w.heap.size,0,N⟩=S (I J 7)/\j.cell? ⟨w.heap.size,4,N⟩=S (.slice (S ⟨c,0,N⟩) 1 m)/\j.cell? ⟨c,0,N⟩=S (I J i)) (go_keep) (first|(go_at_call 108;refine(V.out _).mono ?_;rintro _ j⟨rfl,r⟩;replace r:=r.symm;subst r)|(go_at_call 147;refine(U.out X.drew t.out.drew).mono ?_;rintro _ w5⟨rfl,g⟩;have s1:=(g.cell (p:=⟨w.heap.size,0,N⟩) l.out.1).trans z.out;have s2:=(g.cell (p:=⟨w.heap.size,4,N⟩) l.out.1).trans A.out;have s3:=(g.cell (p:=⟨c,0,N⟩) l.out.2).trans D.out;have y:=z6 (t.out.drew.trans (g.mono (show w.heap.size<=X.heap.size from Nat.le_of_lt l.out.1)));clear g));all_goals go_wp2_with fail
  all_goals go_ret;exact⟨rfl,y.out⟩
 ·go_enter func109,ntmps109;go_wp2_with fail;obtain⟨X,f⟩:∃X,X=w.alloc (.cells #[I J 8,.slice u 0 v,.string ⟨#[]⟩,I J x,.slice (S ⟨c,0,N⟩) 1 m] 149):=⟨_,rfl⟩;rw[<-f];have n:Below w.heap.size w X:=by rw[f];exact zc _ _
  have o:X.heap[w.heap.size]?=S (.cells #[I J 8,.slice u 0 v,.string ⟨#[]⟩,I J x,.slice (S ⟨c,0,N⟩) 1 m] 149 (0,0)):=by rw[f];exact zk _ _
  have E:X.heap.size=w.heap.size+1:=by rw[f];simp
  have H:X.cell? ⟨w.heap.size,0,N⟩=S (I J 8):=z8 o 0;have L:X.cell? ⟨w.heap.size,4,N⟩=S (.slice (S ⟨c,0,N⟩) 1 m):=z8 o 4;have M:X.cell? ⟨c,0,N⟩=S (I J i):=by rw[World.cell?_of_block (a:=⟨c,0,N⟩) (n.block c a0)];exact O
  have G:w.heap.size<X.heap.size:=by omega
  have F:c<X.heap.size:=by omega
  have t:=z6 n;have z:=z6 H;have A:=z6 L;have D:=z6 M;have l:=z6 (And.intro G F);clear f n o E;go_region_held (λj=>j.cell? ⟨w.heap.size,0,N⟩=S (I J 8)/\j.cell? ⟨w.heap.size,4,N⟩=S (.slice (S ⟨c,0,N⟩) 1 m)/\j.cell? ⟨c,0,N⟩=S (I J i)) (go_keep) (first|(go_at_call 108;refine(V.out _).mono ?_;rintro _ j⟨rfl,r⟩;replace r:=r.symm;subst r)|(go_at_call 147;refine(U.out X.drew t.out.drew).mono ?_;rintro _ w5⟨rfl,g⟩;have s1:=(g.cell (p:=⟨w.heap.size,0,N⟩) l.out.1).trans z.out;have s2:=(g.cell (p:=⟨w.heap.size,4,N⟩) l.out.1).trans A.out;have s3:=(g.cell (p:=⟨c,0,N⟩) l.out.2).trans D.out;have y:=z6 (t.out.drew.trans (g.mono (show w.heap.size<=X.heap.size from Nat.le_of_lt l.out.1)));clear g));all_goals go_wp2_with fail
  all_goals go_ret;exact⟨rfl,y.out⟩
 ·go_enter func109,ntmps109;go_wp2_with fail;obtain⟨X,f⟩:∃X,X=w.alloc (.cells #[I J 9,.slice u 0 v,.string ⟨#[]⟩,I J x,.slice (S ⟨c,0,N⟩) 1 m] 149):=⟨_,rfl⟩;rw[<-f];have n:Below w.heap.size w X:=by rw[f];exact zc _ _
  have o:X.heap[w.heap.size]?=S (.cells #[I J 9,.slice u 0 v,.string ⟨#[]⟩,I J x,.slice (S ⟨c,0,N⟩) 1 m] 149 (0,0)):=by rw[f];exact zk _ _
  have E:X.heap.size=w.heap.size+1:=by rw[f];simp
  have H:X.cell? ⟨w.heap.size,0,N⟩=S (I J 9):=z8 o 0;have L:X.cell? ⟨w.heap.size,4,N⟩=S (.slice (S ⟨c,0,N⟩) 1 m):=z8 o 4;have M:X.cell? ⟨c,0,N⟩=S (I J i):=by rw[World.cell?_of_block (a:=⟨c,0,N⟩) (n.block c a0)];exact O
  have G:w.heap.size<X.heap.size:=by omega
  have F:c<X.heap.size:=by omega
  have t:=z6 n;have z:=z6 H;have A:=z6 L;have D:=z6 M;have l:=z6 (And.intro G F);clear f n o E;go_region_held (λj=>j.cell? ⟨w.heap.size,0,N⟩=S (I J 9)/\j.cell? ⟨w.heap.size,4,N⟩=S (.slice (S ⟨c,0,N⟩) 1 m)/\j.cell? ⟨c,0,N⟩=S (I J i)) (go_keep) (first|(go_at_call 108;refine(V.out _).mono ?_;rintro _ j⟨rfl,r⟩;replace r:=r.symm;subst r)|(go_at_call 147;refine(U.out X.drew t.out.drew).mono ?_;rintro _ w5⟨rfl,g⟩;have s1:=(g.cell (p:=⟨w.heap.size,0,N⟩) l.out.1).trans z.out;have s2:=(g.cell (p:=⟨w.heap.size,4,N⟩) l.out.1).trans A.out;have s3:=(g.cell (p:=⟨c,0,N⟩) l.out.2).trans D.out;have y:=z6 (t.out.drew.trans (g.mono (show w.heap.size<=X.heap.size from Nat.le_of_lt l.out.1)));clear g));all_goals go_wp2_with fail
  all_goals go_ret;exact⟨rfl,y.out⟩
end
end Go.Proofs.YtiganlkabilblaaGreatDoor
