import Derived.Test.YtiganlkabilblaaGreatDoorV35
import Derived.Deep.RegionHeld
import Derived.Test.YtiganlkabilblaaGreatDoorV28
import Derived.Test.YtiganlkabilblaaGreatDoorV38
import Derived.Test.YtiganlkabilblaaGreatDoorV29
set_option linter.all false
set_option maxHeartbeats 64000000
set_option maxRecDepth 100000
namespace Go.Proofs.YtiganlkabilblaaGreatDoor
open Tryz
open Tryz renaming prog->P
open Option renaming some->S,none->N
open Value renaming int->I
open IntKind renaming i64->J
section
open Go.RowKit
attribute [local go_sem ↓] Go.wp_at_zero Go.wp_at_succ
theorem zpC(k:Nat)(hS:PlS k):PlC k:=by
 intro w A c u hp H f;obtain⟨d,⟨q,hA⟩,y⟩:=hp;obtain⟨ua,uc,rfl⟩:=zl q;have aa:=zpi c;have s:c≠[]:=by rintro rfl;simp only[wtC]at f;omega
 have K:0<c.length:=List.length_pos_iff.2 s;have a4:Hid (c.length=d.length):=zA.length y;obtain⟨i0,a7,ae,af,ag⟩:=info_parts infoString;obtain⟨h,E,ah⟩:=zoY c.length (by omega) w;obtain⟨g,rfl,D,a6⟩:=Jk q K;have a1:Hid (Below w.heap.size w (w.alloc (.cells h 9))/\(w.alloc (.cells h 9)).ownsRow w.heap.size 9 1 (.slice (S ⟨w.heap.size,0,N⟩) 0 c.length) 0 (((c.map znd).take 0).map znn)):=⟨zc _ _,World.ownsRow_made w h c.length (Nat.le_refl _) (by unfold maxLen;omega) E⟩;have X:=z6 (zqa c s);have a0:=z6 (Nat.le_trans (znJ c) f);have ai:c.length<=500000:=by omega
 have a3:=z6 y;have W:=z6 D;have Z:=z6 H;have HW:=z6 f;clear q hA y H f aa s E D;go_enter func70,ntmps70;go_wp2_with fail;go_loopg[3,11] c.length (λm vo vi wr=>∃i:Nat,m=c.length-i/\vi=I J i/\i<=c.length/\Hid (Below w.heap.size w wr/\wr.ownsRow w.heap.size 9 1 vo i (((c.map znd).take i).map znn)));case atStart=>exact⟨0,by omega,rfl,by omega,a1⟩
 case round=>
  obtain⟨i,rfl,rfl,hi,a⟩:=hrel;have ab:=a.out.1.size;obtain⟨oa,oc,ad⟩:=zl a.out.2;subst ad;by_cases e:i<c.length
  ·have a9:(i:Int)<c.length:=by omega
   have b:i<d.length:=by have:=a4.out;omega
   have c0:wr.cell? ⟨g,i,N⟩=S (d[i]'b):=by rw[a.out.1.cell (p:=⟨g,_,N⟩) a6,W.out _ (by omega)];exact List.getElem?_eq_getElem b
   have v:=zA.get a3.out i e b;have o:=hS wr A c[i] (d[i]'b) (v.kept (ZF a.out.1)) (Nat.le_trans (KH c i e) Z.out) (Nat.le_trans (zph c i e) HW.out);obtain⟨tt,xx,R⟩:∃t x,d[i]'b=.slice t c[i].length x:=by obtain⟨_,hr,_⟩:=v;exact zl hr.1
   rw[R]at c0 o;have L:((c.map znd).take (i+1)).map znn=((c.map znd).take i).map znn++[znn (znd c[i])]:=by rw[List.take_succ_eq_append_getElem (by simpa using e),List.map_append];simp
   have a2:=z6 L;generalize znd c[i]=T at *;generalize c[i].length=cl at *;clear v R L;go_wp2_with fail;refine o.mono ?_;rintro _ w1⟨rfl,j⟩;have aj:=j.size;have z:=z6 j;have n:=Zv a.out.2 z.out;clear o j;go_wp2_with(first|(at_builtin;refine wpList_append_own_at _ rfl _ _ 58 rfl (w.heap.size) 9 i0 _ 1 16 underlying58 a7 ae af ag rfl (by decide) _ _ _ rfl (n.alloc _) ⟨w1.heap.size,0,N⟩ 1 1 [.string ⟨T.toArray⟩] rfl rfl ?c1 ?c2 ?c3 ?c4 ?c5 ?_));case c1=>exact cell_one_new _ _ _
   case c2=>intro u O;simp at O;subst O;rfl
   case c3=>unfold maxLen;omega
   case c4=>omega
   case c5=>simp;omega
   intro v' U l F _ a5;obtain⟨va,vc,hv⟩:=zl l;subst hv;have HN:Hid (Below w.heap.size w U/\U.ownsRow w.heap.size 9 1 (.slice va (i+1) vc) (i+1) (((c.map znd).take (i+1)).map znn)):=by refine⟨ze1 a.out.1 n z.out F,?_⟩;rw[a2.out,List.map_take,List.map_map];exact l
   clear l F a5 n;go_wp2_with fail;go_roundg (c.length-(i+1));case measure=>omega
   case rel=>exact⟨i+1,rfl,by go_num,by omega,HN⟩
  ·have a9:¬(i:Int)<c.length:=by omega
   have a8:i=c.length:=by omega
   subst a8;have M:(c.map znd).take c.length=c.map znd:=List.take_of_length_le (by simp);have r:=a.out.2;rw[M]at r;have G:=zoV r (by simp) K (by omega) X.out (by have:=a0.out;omega);have Y:=z6 G;clear M r G;go_wp2_with fail;refine Y.out.mono ?_;rintro _ w6⟨rfl,B⟩;have V:=z6 (a.out.1.trans (B.mono ab));clear B;go_wp2_with fail;go_ret;exact⟨rfl,V.out⟩
theorem zpX(k:Nat):PlC k/\PlG k:=by
 induction k using Nat.strongRecOn with
 |ind k d=>have b:PlP k:=zpT k (λe h=>(d e h).2);have c:PlT k:=zqs k b;have a:PlC k:=zpC k (zqi k c);exact⟨a,zpJ k b c a⟩
theorem zpB(w:World)(A:Nat->Prop)(c:Z5)(u:Value)(h:Zt w A c u)(a:wtC c<=500000):Calls P 70 #[u] w λe b=>e=.returned (.string ⟨(prC c).toArray⟩)/\Below w.heap.size w b:=(zpX (Qt c)).1 w A c u h (Nat.le_refl _) a
abbrev zo2(d:z7)(a:Option Addr)(c b:Nat):Obj:=.cells #[.string ⟨d.toArray⟩,.slice a c b] 142 (0,0)
theorem zpV(a:World)(A:Nat->Prop)(g:List ze)(R:Addr)(U:Nat)(h:Zj a A g (.slice (S R) g.length U))(ad:GOk g)(hl:g.length<=20):Calls P 40 #[.slice (S R) g.length U] a λe u=>e=.returned (.string ⟨(prG g).toArray⟩)/\Below a.heap.size a u:=by
 have HG:=z6 h;have K:=z6 ad;have HS:Hid (znh a.heap.size a.heap.size (prG (g.take 0)) (a.alloc (.cells #[.pointer N,.slice N 0 0] 138))/\Below a.heap.size a (a.alloc (.cells #[.pointer N,.slice N 0 0] 138))):=⟨zoy a,zc _ _⟩;clear h ad;go_enter func40,ntmps40;go_wp2_with fail;go_loopg[8] g.length (λm v wr=>∃i:Nat,m=g.length-i/\v=I J i/\i<=g.length/\Hid (znh a.heap.size a.heap.size (prG (g.take i)) wr/\Below a.heap.size a wr));case atStart=>exact⟨0,by omega,rfl,by omega,HS⟩
 case round=>
  obtain⟨i,rfl,rfl,hi,l⟩:=hrel;have F:=l.out.2.size;have ay:=l.out.1.lt;by_cases D:i<g.length
  ·have ar:(i:Int)<g.length:=by omega
   obtain⟨r,f,j,rfl,aa,_,L,M,a8,av⟩:=HG.out.at i D;have t:=K.out g[i] (List.getElem_mem D);have aw:wr.cell? ⟨r,i *2,N⟩=S (.string ⟨g[i].name.toArray⟩):=by rw[l.out.2.cell (p:=⟨r,_,N⟩) aa];exact L
   have ax:wr.cell? ⟨r,i *2+1,N⟩=S (.slice f g[i].choice.length j):=by rw[l.out.2.cell (p:=⟨r,_,N⟩) aa];exact M
   have a9:=λ(W:World) (n:Below a.heap.size a W)=>zpB W A g[i].choice _ (a8.kept (ZF n)) t.1;have E:=zqc D;have aq:=zqd K.out hl i;have ab:=zp2 t;have au:=t.2;have ae:prR g[i]=((g[i].name++[32,60,45,32])++prC g[i].choice)++[10]:=rfl;rw[ae]at E ab;generalize g[i].name=b at *;generalize prC g[i].choice=o at *;generalize g[i].choice.length=k at *;have a1:∀W:World,(Op.stringOp .add ⟨b.toArray⟩ ⟨#[32,60,45,32]⟩).run P W=.ok (.string ⟨(b++[32,60,45,32]).toArray⟩) W:=λW=>znD b [32,60,45,32] (by simp;omega) W;have a2:∀W:World,(Op.stringOp .add ⟨(b++[32,60,45,32]).toArray⟩ ⟨o.toArray⟩).run P W=.ok (.string ⟨((b++[32,60,45,32])++o).toArray⟩) W:=λW=>znD _ o (by simp;omega) W;have a3:∀W:World,(Op.stringOp .add ⟨((b++[32,60,45,32])++o).toArray⟩ ⟨#[10]⟩).run P W=.ok (.string ⟨(((b++[32,60,45,32])++o)++[10]).toArray⟩) W:=λW=>znD _ [10] (by simp;omega) W;generalize ((b++[32,60,45,32])++o)++[10]=Z at *;generalize (b++[32,60,45,32])++o=Y at *;generalize b++[32,60,45,32]=V at *;have B:=λ(W:World) (n:znh a.heap.size a.heap.size (prG (g.take i)) W) (hB:a.heap.size<=W.heap.size)=>zob a.heap.size a.heap.size (prG (g.take i)) ⟨Z.toArray⟩ W n (by rw[znU];omega) hB;rw[show(ByteArray.mk Z.toArray).data.toList=Z from by simp]at B;obtain⟨X,s⟩:∃X,X=wr.alloc (.cells #[.string ⟨b.toArray⟩,.slice f k j] 142):=⟨_,rfl⟩;have y:Below wr.heap.size wr X:=by rw[s];exact zc _ _
   have d:Hid (X.heap[wr.heap.size]?=S (zo2 b f k j)):=by rw[s];exact zk _ _
   have s0:X.cell? ⟨wr.heap.size,0,N⟩=S (.string ⟨b.toArray⟩):=z8 d.out 0;have s1:X.cell? ⟨wr.heap.size,1,N⟩=S (.slice f k j):=z8 d.out 1;have a0:wr.heap.size<X.heap.size:=za d.out;have q:=z6 (l.out.2.trans (y.mono F));have x:=z6 (l.out.1.below y);have al:=z6 a9;have aj:=z6 B;have ao:=z6 E;have am:Hid (S wr.heap.size≠S a.heap.size):=λe=>by have:=Option.some.inj e;omega
   have an:Hid (∀(c:Array Value) (O:Nat×Nat),zo2 b f k j≠.cells c 5 O):=λc O e=>by cases e
   clear a9 B E ab aq au ae t a8 L M av y;go_wp2_with fail;rw[<-s];clear s;go_region_held (λu=>u.cell? ⟨wr.heap.size,0,N⟩=S (.string ⟨b.toArray⟩)/\u.cell? ⟨wr.heap.size,1,N⟩=S (.slice f k j)) (go_keep) (first|(go_at_call 70;refine(al.out X.drew q.out.drew).mono ?_;rintro _ G⟨rfl,n⟩;replace d:Hid (G.heap[wr.heap.size]?=S (zo2 b f k j)):=(n.block _ a0).trans d.out;replace s0:G.cell? ⟨wr.heap.size,0,N⟩=S (.string ⟨b.toArray⟩):=z8 d.out 0;replace s1:G.cell? ⟨wr.heap.size,1,N⟩=S (.slice f k j):=z8 d.out 1;replace q:=z6 (q.out.drew.trans (n.mono (Nat.le_trans F (Nat.le_of_lt a0))));replace x:=z6 (znh.below (w:=X.drew) x.out n);clear n)|(go_at_call 69;refine(aj.out _ x.out q.out.size).mono ?_;rintro _ H⟨rfl,a5,a6,a7⟩;replace d:Hid (H.heap[wr.heap.size]?=S (zo2 b f k j)):=a7 _ _ d.out am.out an.out;replace s0:H.cell? ⟨wr.heap.size,0,N⟩=S (.string ⟨b.toArray⟩):=z8 d.out 0;replace s1:H.cell? ⟨wr.heap.size,1,N⟩=S (.slice f k j):=z8 d.out 1;have ak:=z6 a5;have ai:=z6 (q.out.trans a6);clear a5 a6 a7));all_goals go_wp2_with fail
   all_goals
    go_roundg (g.length-(i+1));case measure=>omega
    case rel=>exact⟨i+1,rfl,by go_num,by omega,by rw[ao.out];exact⟨ak.out,ai.out⟩⟩
  ·have ar:¬(i:Int)<g.length:=by omega
   have ag:g.take i=g:=List.take_of_length_le (by omega);have z:=l.out.1;rw[ag]at z;have af:=zoB a.heap.size a.heap.size _ wr z F;have ap:=z6 af;clear af ag z;go_wp2_with fail;refine ap.out.mono ?_;rintro _ w6⟨rfl,a4⟩;have ah:=z6 (l.out.2.trans a4);clear a4;go_wp2_with fail;go_ret;exact⟨rfl,ah.out⟩
theorem zuh(s:ByteArray)(w:World)(hs:s.size<=maxLen)(r:Except (Nat×Nat) (List ze))(v:Zs s.data.toList r):Calls prog 18 #[.string s] w λe D=>Below w.heap.size w D/\∃L,Zo s.data.toList L/\match L with| .ok (g,_)=>e=.returned (.tuple #[.string ⟨(prG g).toArray⟩,I J 0])| .error (u,_)=>u≠0/\e=.returned (.tuple #[.string ⟨#[]⟩,I J u]):=by
 have ah:=zco s w hs r v;clear v;go_enter func18,ntmps18;go_wp2_with fail;refine ah.mono ?_;rintro e d⟨A,L,v,hE⟩;have HB:=z6 A;have R:=z6 v;have hz:=A.size;clear ah A v;cases L with
 |error x=>
  obtain⟨u,aC⟩:=x;obtain⟨h0,n,xn,o,ra,rn,j,rfl⟩:=hE;have h1:¬(u:Int)=0:=by omega
  go_wp2_with fail;go_ret2;exact⟨HB.out.alloc hz _,.error (u,aC),R.out,h0,rfl⟩
 |ok x=>
  obtain⟨g,E⟩:=x;obtain⟨vx,vr,gb,lb,k,a,l,rfl,h⟩:=hE;obtain⟨n,o,ak⟩:=zl h.mem.ex;rw[List.length_map]at ak;obtain⟨c,j,aB,_,aF⟩:=h.mem.ruAt h.rpos;subst ak;subst aB;have aG:=h.rle;have aa:=zV.get a g h.den;have ad:a.length=g.length:=aa.1;have a6:=z6 R.out.gok;obtain⟨W,z⟩:∃W,W=d.alloc (YB (.slice n k.length o) (.slice (S ⟨c,0,N⟩) a.length j)):=⟨_,rfl⟩;have U:Below d.heap.size d W:=by rw[z];exact zc _ _
  have V:W.heap[d.heap.size]?=S (YB (.slice n k.length o) (.slice (S ⟨c,0,N⟩) a.length j)):=by rw[z];exact zk _ _
  have aD:W.heap.size=d.heap.size+1:=by rw[z];simp
  have a8:GM W w.heap.size d.heap.size (.slice n k.length o) (.slice (S ⟨c,0,N⟩) a.length j) (k.map (ZY (zj a))) a:=by have:=h.mem.below U;exact⟨V,this.ex,this.ru,this.items,this.parts⟩
  have a7:=z6 h;have au:=z6 U;have av:=z6 V;have aq:=z6 a8;have M:=z6 ad;clear h U V a8 aa ad;go_wp2_with fail;rw[<-z];clear z;go_loopg[8,9] a.length (λm vo vi wr=>∃i:Nat,m=a.length-i/\vo=.string ⟨(prG (g.take i)).toArray⟩/\vi=I J i/\i<=a.length/\Hid (Below W.heap.size W wr));case atStart=>exact⟨0,by omega,rfl,rfl,by omega,Below.refl _ _⟩
  case round=>
   obtain⟨i,rfl,rfl,rfl,hi,t⟩:=hrel;have Y:wr.heap[d.heap.size]?=S (YB (.slice n k.length o) (.slice (S ⟨c,0,N⟩) a.length j)):=by rw[t.out.block _ (by omega)];exact av.out
   have q:=z8 Y;have ax:=za Y;have aA:=t.out.size;obtain⟨P,y⟩:∃P,P=prG (g.take i):=⟨_,rfl⟩;rw[<-y];by_cases Z:i<a.length
   ·have ay:(i:Int)<a.length:=by omega
    have H:i<g.length:=by have:=M.out;omega
    have a0:=aq.out.below t.out;obtain⟨d0,d1⟩:=a0.ruCells i Z;have ai:a[i].1=g[i].name:=by have:=((zV.get a g a7.out.den).2 i H).1;rw[List.getD_eq_getElem?_getD,List.getElem?_map,List.getElem?_eq_getElem Z]at this;exact this
    have a9:=Vv a7.out.den Z H;have G:=a6.out g[i] (List.getElem_mem H);have F:=ztY (zus w.heap.size d.heap.size (.slice n k.length o) (.slice (S ⟨c,0,N⟩) a.length j) k a) a9 G.1;have aw:c<wr.heap.size:=by omega
    obtain⟨b,K⟩:∃b,b=g[i].name:=⟨_,rfl⟩;obtain⟨f,X⟩:∃f,f=prC g[i].choice:=⟨_,rfl⟩;obtain⟨kb,ae⟩:∃kb,kb=a[i].2:=⟨_,rfl⟩;have af:=zp2 G;have ag:=zqd a6.out (by have:=M.out;omega) i;have a5:=zqc H;rw[ai, <-K]at d0;rw[<-ae]at d1 F;rw[<-X]at F af;rw[<-y]at ag a5;have az:b.length<=20:=by rw[K];exact G.2
    have aj:prG (g.take (i+1))=(((P++b)++[32,60,45,32])++f)++[10]:=by rw[a5];unfold prR;rw[<-K, <-X];simp
    have a1:∀W:World,(Op.stringOp .add ⟨P.toArray⟩ ⟨b.toArray⟩).run prog W=.ok (.string ⟨(P++b).toArray⟩) W:=λW=>znD P b (by omega) W;have a2:∀W:World,(Op.stringOp .add ⟨(P++b).toArray⟩ ⟨#[32,60,45,32]⟩).run prog W=.ok (.string ⟨((P++b)++[32,60,45,32]).toArray⟩) W:=λW=>znD (P++b) [32,60,45,32] (by simp;omega) W;have a3:∀W:World,(Op.stringOp .add ⟨((P++b)++[32,60,45,32]).toArray⟩ ⟨f.toArray⟩).run prog W=.ok (.string ⟨(((P++b)++[32,60,45,32])++f).toArray⟩) W:=λW=>znD _ f (by simp;omega) W;have a4:∀W:World,(Op.stringOp .add ⟨(((P++b)++[32,60,45,32])++f).toArray⟩ ⟨#[10]⟩).run prog W=.ok (.string ⟨((((P++b)++[32,60,45,32])++f)++[10]).toArray⟩) W:=λW=>znD _ [10] (by simp;omega) W;have ar:=z6 aj;generalize (((P++b)++[32,60,45,32])++f)++[10]=P4 at *;generalize ((P++b)++[32,60,45,32])++f=P3 at *;generalize (P++b)++[32,60,45,32]=P2 at *;generalize P++b=P1 at *;have an:=z6 (λ(W:World) A=>F W (a0.below (w':=W) A));have HQ:=z6 (q 1);have ao:=z6 d0;have ap:=z6 d1;have O:=z6 (And.intro ax aw);have aE:wr.cell? ⟨d.heap.size,1,N⟩=S (.slice (S ⟨c,0,N⟩) a.length j):=q 1;clear y K X ae af ag a5 aj az ai a9 G F a0 Y q;go_wp2_with fail;go_region_held (λD=>D.cell? ⟨d.heap.size,1,N⟩=S (.slice (S ⟨c,0,N⟩) a.length j)/\D.cell? ⟨c,i *2,N⟩=S (.string ⟨b.toArray⟩)/\D.cell? ⟨c,i *2+1,N⟩=S (I J kb)) (go_keep) (first|(go_at_call 41;refine(an.out wr.drew (below_drewN (Below.refl _ wr) 1)).mono ?_;rintro _ w5⟨rfl,B⟩;have s1:=(B.cell (p:=⟨d.heap.size,1,N⟩) O.out.1).trans HQ.out;have s2:=(B.cell (p:=⟨c,i *2,N⟩) O.out.2).trans ao.out;have s3:=(B.cell (p:=⟨c,i *2+1,N⟩) O.out.2).trans ap.out;have al:=z6 ((below_drewN t.out 1).trans (B.mono (show W.heap.size<=wr.heap.size from aA)));clear B));all_goals go_wp2_with fail
    all_goals
     go_roundg (a.length-(i+1));case measure=>omega
     case rel=>exact⟨i+1,rfl,congrArg (λl=>Value.string ⟨List.toArray l⟩) ar.out.symm,by go_num,by omega,al⟩
   ·have ay:¬(i:Int)<a.length:=by omega
    have ab:P=prG g:=by rw[y,List.take_of_length_le (by have:=M.out;omega)]
    have HF:=z6 ab;have am:Hid (Below w.heap.size w wr):=(HB.out.trans (au.out.mono hz)).trans (t.out.mono (by omega));clear ab y;go_wp2_with fail;go_ret2;exact⟨am.out,.ok (g,E),R.out,congrArg (λl=>Ending.returned (.tuple #[.string ⟨List.toArray l⟩,I J 0])) HF.out⟩
abbrev kB:List UInt8:=[97,32,60,45,32,39,120,39,32,97,32,47,32,39,121,39]
abbrev kC:Z5:=[[.mk 0 (.lit [120]) 0,.mk 0 (.name [97]) 0],[.mk 0 (.lit [121]) 0]]
theorem ztK:Qn kB=[⟨.name,0,1,[97],[]⟩,⟨.arrow,2,2,[],[]⟩,⟨.lit,5,3,[120],[]⟩,⟨.name,9,1,[97],[]⟩,⟨.sign 47,11,1,[],[]⟩,⟨.lit,13,3,[121],[]⟩,⟨.fin,16,0,[],[]⟩]:=by rfl
theorem ztJ:ZU 0 (Qn kB) (.ok [⟨[97],kC⟩]):=by
 rw[ztK];refine .last (rest:=[⟨.fin,16,0,[],[]⟩]) (.ok rfl rfl (by decide) (.more (rest:=[⟨.sign 47,11,1,[],[]⟩,⟨.lit,13,3,[121],[]⟩,⟨.fin,16,0,[],[]⟩]) ?_ rfl (.last ?_ (by simp[hd])))) rfl;·exact .cons rfl (.ok (.plain rfl)) (.cons rfl (.ok (.plain rfl)) (.nil rfl))
 ·exact .cons rfl (.ok (.plain rfl)) (.nil rfl)
theorem ztI(x:Nat×Nat):¬Qh [⟨[97],kC⟩] (.error x):=by
 intro h;cases h with
 |twice h=>obtain⟨a,b,_⟩:=h;simp[zg]at a;subst a;simp[Jp]at b
 |unknown _ h=>obtain⟨a,b,_⟩:=h;simp at a;subst a;simp[zx,Zc,ZG,Zi,zv,Term.piece,zg]at b
 |loop _ _ _ _ _ h=>obtain⟨a,b,_⟩:=h;simp at a;subst a;simp[zx,Zc,ZG,Zi,zJ,Term.behind]at b
 |left _ _ _ _ _ _ h=>obtain⟨a,b,_⟩:=h;simp at a;subst a;simp[Wm,Za,ZC,Q2,JR,Zy,Zu,Ze,ZJ,zg]at b
theorem zhv(s:ByteArray)(w:World)(n:s.size<=maxLen)(r:Except (Nat×Nat) (List ze))(a:Zs s.data.toList r):Calls P 15 #[.string s] w λe v=>Below w.heap.size w v/\∃b,Zo s.data.toList b/\match b with| .ok _=>e=.returned (.tuple #[I J 0,I J 0])| .error (c,p)=>e=.returned (.tuple #[I J c,I J p]):=by
 have k:=zco s w n r a;clear a;go_enter func15,ntmps15;go_wp2_with fail;refine k.mono ?_;rintro e L⟨d,b,a,j⟩;have h:=z6 d;have i:=z6 a;have m:=d.size;clear k d a;cases b with
 |error x=>obtain⟨c,p⟩:=x;obtain⟨_,y,M,z,t,F,u,rfl⟩:=j;go_wp2_with fail;go_ret2;exact⟨h.out.alloc m _,.error (c,p),i.out,rfl⟩
 |ok x=>obtain⟨g,E⟩:=x;obtain⟨K,H,A,B,D,G,l,rfl,f⟩:=j;obtain⟨y,z,q⟩:=zl f.mem.ex;obtain⟨t,u,o⟩:=zl f.mem.ru;subst q;subst o;clear f;go_wp2_with fail;go_ret2;exact⟨h.out.alloc m _,.ok (g,E),i.out,rfl⟩
theorem zsJ(w:World)(d:QD w):Calls P 16 #[] w λe g=>e=.returned (.bool true)/\Below w.heap.size w g:=by have c:=zm6 ⟨#[97,32,60,45,32,39,120,39,32,97,32,47,32,39,121,39]⟩ w (by decide) d;clear d;go_enter func16,ntmps16;go_wp2_with fail;refine c.mono ?_;rintro e i⟨f,h,b,a⟩;obtain⟨y,rfl⟩:=b.fine (l:=kB) (by decide) ztJ ztI;simp only[]at a;subst a;clear c b;go_wp2_with fail;go_ret;exact⟨rfl,f⟩
theorem ztF(s:ByteArray)(w:World)(A:s.size<=maxLen)(q:QD w):Calls P 3 #[.string s] w λe F=>e=.returned (.bool true)/\Below w.heap.size w F:=by
 have y:=zm6 s w A q;have t:=z6 q;clear q;go_enter func3,ntmps3;go_wp2_with fail;refine y.mono ?_;rintro e G⟨v,D,o,l⟩;obtain⟨r,z⟩:∃r,Zs s.data.toList r:=by
  cases o with
  |text h=>exact⟨_,h⟩|rules h _=>exact⟨_,h⟩|ok h _=>exact⟨_,h⟩
 have m:=zhv s G A r z;have k:=z6 v;have u:=z6 o;clear y v o z;cases D with
 |error x=>obtain⟨J,p⟩:=x;simp only[]at l;subst l;go_wp2_with fail;refine m.mono ?_;rintro B j⟨f,E,d,c⟩;have:=u.out.det d;subst this;simp only[]at c;subst c;have a:Below w.heap.size w j:=k.out.trans (f.mono k.out.size);have i:=zsJ j (t.out.below a);have b:=z6 a;clear m d f a;go_wp2_with fail;refine i.mono ?_;rintro _ H⟨rfl,g⟩;have n:=z6 (b.out.trans (g.mono b.out.size));clear i g;go_wp2_with fail;go_ret;exact⟨by simp,n.out⟩
 |ok x=>simp only[]at l;subst l;go_wp2_with fail;refine m.mono ?_;rintro B j⟨f,E,d,c⟩;have:=u.out.det d;subst this;simp only[]at c;subst c;have a:Below w.heap.size w j:=k.out.trans (f.mono k.out.size);have i:=zsJ j (t.out.below a);have b:=z6 a;clear m d f a;go_wp2_with fail;refine i.mono ?_;rintro _ H⟨rfl,g⟩;have n:=z6 (b.out.trans (g.mono b.out.size));clear i g;go_wp2_with fail;go_ret;exact⟨by simp,n.out⟩
end
end Go.Proofs.YtiganlkabilblaaGreatDoor
