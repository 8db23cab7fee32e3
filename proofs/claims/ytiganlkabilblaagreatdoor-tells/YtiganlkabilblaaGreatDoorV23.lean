import Derived.Test.YtiganlkabilblaaGreatDoorV20
import Derived.Test.YtiganlkabilblaaGreatDoorV21
import Derived.Test.YtiganlkabilblaaGreatDoorV22
import Derived.Test.YtiganlkabilblaaGreatDoorV16
set_option linter.all false
set_option maxHeartbeats 64000000
set_option maxRecDepth 100000
namespace Go.Proofs.YtiganlkabilblaaGreatDoor
open Tryz
open Tryz renaming prog->P
open Option renaming some->S,none->N
open Value renaming int->I
open IntKind renaming i64->J
section
open Go.RowKit
theorem zfs{Z:World}{X tb:Nat}{N:List Nd}{J:List (Nat×Nat×Nat)}{rules:List Nat}{Y:Value}{s:ByteArray}(M:Mde Z X N J rules Y)(a6:rules.length<=100000)(F:s.size<=1000000){f:Nat}(z:JE Z X tb N J rules Y s f):zaH Z X tb N J rules Y s f:=by
 intro n d iv k r x e y;cases d with
 |choice V=>obtain⟨D,a,c,rfl,v,R,A⟩:=x;refine⟨_,_,rfl,λt w=>by simp[go_sem],λW h=> ?_⟩;have:=zfk M z V D a c v R A k r e y W h;simpa using this
 |seq V=>obtain⟨m,D,a,c,rfl,p,v,R,A⟩:=x;refine⟨_,_,rfl,λt w=>by simp[go_sem],λW h=> ?_⟩;have:=zfp M z V m D a c p v R A k r e y W h;simpa using this
 |ahead j wd=>
  obtain⟨m,B,bw,rfl,p,v,a5⟩:=x;refine⟨_,_,rfl,λt w=>by simp[go_sem],λW h=> ?_⟩;simp only[Zx]at e;cases q:evN N rules s.data.toList f j k with
  |none=>rw[q]at e;cases e|some o=>rw[q]at e;simp only[Option.map_some,Option.some.injEq]at e;subst e;have:=zfj M z j m B bw wd p v a5 k o q y W h;simpa using this
 |maybe j=>
  obtain⟨B,rfl,v⟩:=x;refine⟨_,_,rfl,λt w=>by simp[go_sem],λW h=> ?_⟩;simp only[Zx]at e;cases q:evN N rules s.data.toList f j k with
  |none=>rw[q]at e;cases e|some o=>rw[q]at e;simp only[Option.map_some,Option.some.injEq]at e;subst e;have:=zfm M z j B v k o q y W h;simpa using this
 |plus j=>obtain⟨B,bp,rfl,v,hp⟩:=x;refine⟨_,_,rfl,λt w=>by simp[go_sem],λW h=> ?_⟩;have:=zfo M z n j B bp v hp k r e y W h;simpa using this
 |name i=>
  obtain⟨m,bi,rfl,p,a2⟩:=x;refine⟨_,_,rfl,λt w=>by simp[go_sem],λW h=> ?_⟩;simp only[Zx]at e;cases O:rules[i]? with
  |none=>rw[O]at e;cases e
  |some j=>
   rw[O]at e;simp only[]at e;cases q:evN N rules s.data.toList f j k with
   |none=>rw[q]at e;cases e|some o=>rw[q]at e;simp only[Option.map_some,Option.some.injEq]at e;subst e;have:=zfn M z i m bi p a2 a6 F k j o O q y W h;simpa using this
 |lit b=>obtain⟨m,bt,rfl,p,a4,A⟩:=x;refine⟨_,_,rfl,λt w=>by simp[go_sem],λW h=> ?_⟩;simp only[Zx,Option.some.injEq]at e;subst e;have:=zfl M b m bt p a4 A F k y W h;simpa using this
 |cls l=>
  obtain⟨m,H,D,u,rfl,p,L,a3,U,A⟩:=x;refine⟨_,_,rfl,λt w=>by simp[go_sem],λW h=> ?_⟩;simp only[Zx,Option.some.injEq]at e;subst e;have a0:=h.box M a3;have a1:Qr W 0 u l:=Z6 U (λg E=>h.old g (U.lt g E).2 (by rintro rfl;obtain⟨a7,hc⟩:=Zr U E;obtain⟨sv,tv,nv,hm⟩:=M.mat;rw[hm]at hc;simp at hc))
  have:=zbG M m H _ _ (Q7 l) p L F k y W h (λt w=>by simp[go_sem]) (λG c K=>by have:=zes G u l c D (by rw[K.block _ (zd a0)];exact a0) (Z6 a1 (λg E=>K.block _ (a1.lt g E).2)) (by omega);simpa using this)
  simpa using this
 |any=>
  obtain⟨m,H,rfl,p,L⟩:=x;refine⟨_,_,rfl,λt w=>by simp[go_sem],λW h=> ?_⟩;simp only[Zx,Option.some.injEq]at e;subst e;have:=zbG M m H _ _ (λ_=>true) p L F k y W h (λt w=>by simp[go_sem]) (λG c K=>by have:=zdN G (I .u8 c.toNat);simpa using this)
  simpa using this
theorem zbh{g:World}{d tb:Nat}{N:List Nd}{a:List (Nat×Nat×Nat)}{rules:List Nat}{e:Value}{s:ByteArray}(M:Mde g d N a rules e)(b:rules.length<=100000)(c:s.size<=1000000):∀f,JE g d tb N a rules e s f
 |0=>λ_ _ _ _ h=>by cases h
 |f+1=>zet M (zfs M b c (zbh M b c f))
end
section
open Go.RowKit
attribute [local go_sem ↓] Go.wp_at_zero Go.wp_at_succ
structure MR(wM:World)(mb:Nat)(vr:Value)(s0:ByteArray)(tv:Value)(w:World):Prop where
 size:wM.heap.size<=w.heap.size
 old:∀b,b<wM.heap.size->b≠mb->w.heap[b]?=wM.heap[b]?
 mlt:mb<wM.heap.size
 blk:w.heap[mb]?=some (Zz vr s0 tv .nilIface)
theorem MR.below{d:World}{c:Nat}{g:Value}{e:ByteArray}{f:Value}{B:Nat}{w w':World}(h:MR d c g e f w)(a:Below B w w')(k:c<B)(l:d.heap.size<=B):MR d c g e f w':=⟨Nat.le_trans h.size a.size,λb i j=>(a.block b (by omega)).trans (h.old b i j),h.mlt,by rw[a.block _ k];exact h.blk⟩
theorem MR.ended{e:World}{a:Nat}{d:Value}{g:ByteArray}{i:Value}{w:World}(h:MR e a d g i w):MR e a d ⟨#[]⟩ (.map N) ((w.setCell ⟨a,1,N⟩ (.string ⟨#[]⟩)).setCell ⟨a,2,N⟩ (.map N)):=by
 refine⟨by simpa[World.setCell]using h.size,λb f c=> ?_,h.mlt,?_⟩;·rw[Below.heap_setCell _ _ _ _ c,Below.heap_setCell _ _ _ _ c];exact h.old b f c
 ·rw[zo (zo h.blk _) _];rfl
theorem zay(w:World)(u:FrameMode)(c a:Nat)(i:Value)(s:ByteArray)(f d:Value)(b:w.heap[c]?=S (zh (z9 a) 113))(h:w.heap[a]?=S (Zz i s f d)):CallsD P 83 #[z9 c] u w λe g j=>g=u/\(e=.returned (.tuple #[])/\j=(w.setCell ⟨a,1,N⟩ (.string ⟨#[]⟩)).setCell ⟨a,2,N⟩ (.map N)):=by have n:=z8 b;have m:=za b;have q:=z8 h;have k:=zi h;have l:=za h;clear h b;go_enter_d func83,ntmps83;go_wp2_with fail;go_end0;exact⟨rfl,rfl⟩
structure TX(mb:Nat)(vr:Value)(s:ByteArray)(w X:World):Prop where
 os:X.os=w.os
 tape:X.tape=w.tape
 output:X.output=w.output
 size:X.heap.size=w.heap.size+3
 mat:X.heap[mb]?=some (Zz vr s (.map (some (w.heap.size+1+1))) .nilIface)
 old:∀b,b<w.heap.size->b≠mb->X.heap[b]?=w.heap[b]?
 box:X.heap[w.heap.size]?=some (zh (z9 mb) 113)
 use:X.heap[w.heap.size+1]?=some JD
 tab:X.heap[w.heap.size+1+1]?=some (.map #[] 0)
theorem Vj(w:World)(a b c:Obj):(((w.alloc a).alloc b).alloc c).heap[w.heap.size]?=S a:=by rw[zm _ _ (by simp;omega),zm _ _ (by simp)];exact zk _ _
theorem Vk(w:World)(a b c:Obj):(((w.alloc a).alloc b).alloc c).heap[w.heap.size+1]?=S b:=by rw[zm _ _ (by simp)];have:=zk (w.alloc a) b;simpa using this
theorem Vl(w:World)(a b c:Obj):(((w.alloc a).alloc b).alloc c).heap[w.heap.size+1+1]?=S c:=by have:=zk ((w.alloc a).alloc b) c;simpa using this
theorem tx1{w:World}{a:Nat}{k:Value}{n s:ByteArray}{o:Value}(h:w.heap[a]?=S (Zz k n o .nilIface)):TX a k s w (((((w.setCell ⟨a,1,N⟩ (.string s)).alloc (zh (z9 a) 113)).alloc JD).alloc (.map #[] 0)).setCell ⟨a,2,N⟩ (.map (S (w.heap.size+1+1)))).drew:=by
 have l:=zd h;have j:(w.setCell ⟨a,1,N⟩ (.string s)).heap.size=w.heap.size:=by simp[World.setCell]
 have g:∀b,b<w.heap.size->((((w.setCell ⟨a,1,N⟩ (.string s)).alloc (zh (z9 a) 113)).alloc JD).alloc (.map #[] 0)).heap[b]?=(w.setCell ⟨a,1,N⟩ (.string s)).heap[b]?:=λb c=>(Qs _ _ _ _).block _ (by rw[j];exact c);have d:=Vj (w.setCell ⟨a,1,N⟩ (.string s)) (zh (z9 a) 113) JD (.map #[] 0);have e:=Vk (w.setCell ⟨a,1,N⟩ (.string s)) (zh (z9 a) 113) JD (.map #[] 0);have f:=Vl (w.setCell ⟨a,1,N⟩ (.string s)) (zh (z9 a) 113) JD (.map #[] 0);rw[j]at d e f;refine⟨rfl,rfl,rfl,?_,?_,?_,?_,?_,?_⟩;·show(World.setCell _ _ _).heap.size=_;simp[World.setCell]
 ·show(World.setCell _ _ _).heap[a]?=_;have m:=(g a l).trans (zo h (.string s));rw[zo m];rfl
 ·intro b c i;show(World.setCell _ _ _).heap[b]?=_;rw[Below.heap_setCell _ _ _ _ i,g b c,Below.heap_setCell _ _ _ _ i]
 ·show(World.setCell _ _ _).heap[w.heap.size]?=_;rw[Below.heap_setCell _ _ _ _ (by simp;omega)];exact d
 ·show(World.setCell _ _ _).heap[w.heap.size+1]?=_;rw[Below.heap_setCell _ _ _ _ (by simp;omega)];exact e
 ·show(World.setCell _ _ _).heap[w.heap.size+1+1]?=_;rw[Below.heap_setCell _ _ _ _ (by simp;omega)];exact f
theorem tx2{w:World}{a:Nat}{f:Value}{m s:ByteArray}{n:Value}(h:w.heap[a]?=S (Zz f m n .nilIface)):TX a f s w (((((w.alloc (zh (z9 a) 113)).alloc JD).alloc (.map #[] 0)).setCell ⟨a,1,N⟩ (.string s)).setCell ⟨a,2,N⟩ (.map (S (w.heap.size+1+1)))).drew:=by
 have k:=zd h;have d:∀b,b<w.heap.size->(((w.alloc (zh (z9 a) 113)).alloc JD).alloc (.map #[] 0)).heap[b]?=w.heap[b]?:=λb c=>(Qs _ _ _ _).block _ c;have g:=Vj w (zh (z9 a) 113) JD (.map #[] 0);have i:=Vk w (zh (z9 a) 113) JD (.map #[] 0);have j:=Vl w (zh (z9 a) 113) JD (.map #[] 0);refine⟨rfl,rfl,rfl,?_,?_,?_,?_,?_,?_⟩;·show(World.setCell _ _ _).heap.size=_;simp[World.setCell]
 ·show(World.setCell _ _ _).heap[a]?=_;have l:=(d a k).trans h;rw[zo (zo l _) _];rfl
 ·intro b c e;show(World.setCell _ _ _).heap[b]?=_;rw[Below.heap_setCell _ _ _ _ e,Below.heap_setCell _ _ _ _ e,d b c]
 ·show(World.setCell _ _ _).heap[w.heap.size]?=_;rw[Below.heap_setCell _ _ _ _ (by simp;omega),Below.heap_setCell _ _ _ _ (by simp;omega)];exact g
 ·show(World.setCell _ _ _).heap[w.heap.size+1]?=_;rw[Below.heap_setCell _ _ _ _ (by simp;omega),Below.heap_setCell _ _ _ _ (by simp;omega)];exact i
 ·show(World.setCell _ _ _).heap[w.heap.size+1+1]?=_;rw[Below.heap_setCell _ _ _ _ (by simp;omega),Below.heap_setCell _ _ _ _ (by simp;omega)];exact j
theorem TX.ms{e:World}{a:Nat}{N:List Nd}{rules:List Nat}{c:Value}{i s:ByteArray}{j:Value}{w X:World}(h:MR e a c i j w)(t:TX a c s w X):MS e a (w.heap.size+1+1) N rules c s .nil X:=by have l:=h.size;have m:=t.size;refine⟨by omega,λb f d=>(t.old b (by omega) d).trans (h.old b f d),h.mlt,t.mat,by omega,[],⟨#[],0,t.tab,rfl⟩,?_⟩;intro n k r g;simp[ZK]at g
theorem zj4{Z:World}{d:Nat}{a3:List Nd}{bx:List (Nat×Nat×Nat)}{rules:List Nat}{m:Value}{n H:ByteArray}{K:Value}(M:Mde Z d a3 bx rules m)(a9:rules.length<=100000)(ab:n.size<=1000000)(w:World)(h:MR Z d m H K w)(a8 j:Nat)(o:Out)(hi:rules[0]?=S j)(hv:evN a3 rules n.data.toList a8 j 0=S o):Calls P 60 #[z9 d,.string n] w λe z=>e=.returned (.tuple #[J1 0 0 o,.bool o.isSome])/\MR Z d m ⟨#[]⟩ (.map N) z/\KpM [d] w.heap.size w z:=by
 have q:=z8 h.blk;have fz:=zi h.blk;have l:=za h.blk;have r:=z6 h;have HU:Hid (∀X,TX d m n w X->Calls P 84 #[z9 d,I J 0,I J 0] X λe z=>e=.returned (.tuple #[J1 0 0 o,.bool o.isSome])/\Hid (MR Z d m n (.map (S (w.heap.size+1+1))) z)/\z.heap[w.heap.size+1]?=S JD/\Hid (z.heap[w.heap.size]?=S (zh (z9 d) 113))/\Hid (KpM [d] w.heap.size w z)):=z6 (λX g=>by
  have hm:=g.ms (N:=a3) (rules:=rules) h;have hl:=zd h.blk;have:=zdi M (zbh (tb:=w.heap.size+1+1) (s:=n) M a9 ab a8) 0 j 0 o hi a9 hv (Nat.zero_le _) X .nil hm;refine Calls.mono this ?_;rintro e z⟨h1,W,B⟩;have hz:=g.size;refine⟨h1,z6 ⟨W.size,W.old,W.mlt,W.blk⟩,?_,z6 ?_,z6 ⟨B.os.trans g.os,B.tape.trans g.tape,B.output.trans g.output,by have:=B.size;omega,λb hb hn=> ?_⟩⟩;·rw[B.block _ (by omega) (by simp;omega)];exact g.use
  ·rw[B.block _ (by omega) (by simp;omega)];exact g.box
  ·have aa:b≠d:=by simpa using hn
   rw[B.block _ (by omega) (by simp;omega)];exact g.old b hb aa)
 clear h M hi hv;have ad:=@run_makeMap P;have E:∀a b c,(((w.alloc a).alloc b).alloc c).heap[d]?=S (Zz m H K .nilIface):=λa b c=>by rw[(Qs w a b c).block _ l];exact r.out.blk
 have c1:∀a b c,(((w.alloc a).alloc b).alloc c).cell? ⟨d,1,N⟩=S (.string H):=λa b c=>z8 (E a b c) 1;have c2:∀a b c,(((w.alloc a).alloc b).alloc c).cell? ⟨d,2,N⟩=S K:=λa b c=>z8 (E a b c) 2;have g1:∀a b c,(((w.alloc a).alloc b).alloc c).frozen? ⟨d,1,N⟩=false:=λa b c=>zi (E a b c) 1;have g2:∀a b c,(((w.alloc a).alloc b).alloc c).frozen? ⟨d,2,N⟩=false:=λa b c=>zi (E a b c) 2;have a4:∀v a b c,((((w.setCell ⟨d,1,N⟩ v).alloc a).alloc b).alloc c).heap[d]?=S (.cells #[m,v,K,.nilIface] 177 (0,0)):=λv a b c=>by rw[(Qs (w.setCell ⟨d,1,N⟩ v) a b c).block _ (by simpa[World.setCell]using l),zo r.out.blk];rfl
 have a5:∀v a b c,((((w.setCell ⟨d,2,N⟩ v).alloc a).alloc b).alloc c).heap[d]?=S (.cells #[m,.string H,v,.nilIface] 177 (0,0)):=λv a b c=>by rw[(Qs (w.setCell ⟨d,2,N⟩ v) a b c).block _ (by simpa[World.setCell]using l),zo r.out.blk];rfl
 have c3:∀v a b c,((((w.setCell ⟨d,1,N⟩ v).alloc a).alloc b).alloc c).cell? ⟨d,2,N⟩=S K:=λv a b c=>z8 (a4 v a b c) 2;have g3:∀v a b c,((((w.setCell ⟨d,1,N⟩ v).alloc a).alloc b).alloc c).frozen? ⟨d,2,N⟩=false:=λv a b c=>zi (a4 v a b c) 2;have c4:∀v a b c,((((w.setCell ⟨d,2,N⟩ v).alloc a).alloc b).alloc c).cell? ⟨d,1,N⟩=S (.string H):=λv a b c=>z8 (a5 v a b c) 1;have g4:∀v a b c,((((w.setCell ⟨d,2,N⟩ v).alloc a).alloc b).alloc c).frozen? ⟨d,1,N⟩=false:=λv a b c=>zi (a5 v a b c) 1;clear E a4 a5;go_enter_defers func60,ntmps60;go_wp2_with fail;refine Yj ?_;go_region;all_goals refine Yi ?_
 all_goals go_wp2_with fail
 all_goals
  refine Calls.mono (HU.out _ (by first|exact tx1 r.out.blk|exact tx2 r.out.blk)) ?_;rintro _ D⟨rfl,a1,G,V,a0⟩;have z0:=z8 G;have f0:=zi G;have l0:=za G;have y0:=z8 V.out;have a2:=z6 G;clear G c1 c2 c3 c4 g1 g2 g3 g4 q fz;cases o with
  |none=>
   have ho:J1 0 0 N=.agg #[I J 0,I J 0,I J 0,.nilIface]:=rfl;have Y:Option.isSome (N:Out)=false:=rfl;rw[ho,Y];go_wp2_with fail;obtain⟨X,g⟩:∃X,X=((((D.setCell ⟨w.heap.size+1,0,N⟩ (I J 0)).setCell ⟨w.heap.size+1,1,N⟩ (I J 0)).setCell ⟨w.heap.size+1,2,N⟩ (I J 0)).setCell ⟨w.heap.size+1,3,N⟩ (.nilIface)):=⟨_,rfl⟩;have u:Below w.heap.size D X:=by rw[g];exact((((Below.refl _ _).setCell (p:=⟨w.heap.size+1,0,N⟩) (Nat.le_succ _) _).setCell (p:=⟨w.heap.size+1,1,N⟩) (Nat.le_succ _) _).setCell (p:=⟨w.heap.size+1,2,N⟩) (Nat.le_succ _) _).setCell (p:=⟨w.heap.size+1,3,N⟩) (Nat.le_succ _) _
   have O:X.heap[w.heap.size+1]?=S (.cells #[I J 0,I J 0,I J 0,.nilIface] 108 (0,0)):=by rw[g,zo (zo (zo (zo a2.out _) _) _) _];rfl
   have R:X.heap[w.heap.size]?=S (zh (z9 d) 113):=by rw[g,Below.heap_setCell _ _ _ _ (by simp),Below.heap_setCell _ _ _ _ (by simp),Below.heap_setCell _ _ _ _ (by simp),Below.heap_setCell _ _ _ _ (by simp)];exact V.out
   have A:=a1.out.below u l r.out.size;rw[<-g];have U:=a0.out.low u;refine leaves_cons (f:=83) (args:=#[z9 w.heap.size]) (by simp) (by simp[go_sem]) ?_;refine(zay X .returning w.heap.size d m n _ _ R A.blk).mono ?_;rintro e u' L⟨rfl,rfl,k⟩;have y:w.heap.size+1≠d:=by omega
   have i:=A.ended;rw[<-k]at i;have F:KpM [d] w.heap.size w L:=by rw[k];exact(U.set (by simp) _).set (by simp) _
   refine⟨_,KS rfl _ _ (w.heap.size+1) _ _ _ _ rfl (by rw[k,Below.heap_setCell _ _ _ _ y,Below.heap_setCell _ _ _ _ y];exact O) underlying108 rfl (by kernel_rfl),?_⟩;exact⟨rfl,i,F⟩
  |some x=>
   have i:=QV x.2;obtain⟨nv,a6⟩:∃nv,nv=ntV x.2:=⟨_,rfl⟩;have hu:J1 0 0 (S x)=.agg #[I J 0,I J 0,I J x.1,nv]:=by rw[a6];rfl
   have Y:Option.isSome (S x:Out)=true:=rfl;rw[hu,Y];rw[<-a6]at i;have a7:=z6 hu;clear hu Y a6;rcases i with rfl|⟨t,v,rfl⟩
   ·go_wp2_with fail;obtain⟨X,g⟩:∃X,X=((((D.setCell ⟨w.heap.size+1,0,N⟩ (I J 0)).setCell ⟨w.heap.size+1,1,N⟩ (I J 0)).setCell ⟨w.heap.size+1,2,N⟩ (I J x.1)).setCell ⟨w.heap.size+1,3,N⟩ (.nilIface)):=⟨_,rfl⟩;have u:Below w.heap.size D X:=by rw[g];exact((((Below.refl _ _).setCell (p:=⟨w.heap.size+1,0,N⟩) (Nat.le_succ _) _).setCell (p:=⟨w.heap.size+1,1,N⟩) (Nat.le_succ _) _).setCell (p:=⟨w.heap.size+1,2,N⟩) (Nat.le_succ _) _).setCell (p:=⟨w.heap.size+1,3,N⟩) (Nat.le_succ _) _
    have O:X.heap[w.heap.size+1]?=S (.cells #[I J 0,I J 0,I J x.1,.nilIface] 108 (0,0)):=by rw[g,zo (zo (zo (zo a2.out _) _) _) _];rfl
    have R:X.heap[w.heap.size]?=S (zh (z9 d) 113):=by rw[g,Below.heap_setCell _ _ _ _ (by simp),Below.heap_setCell _ _ _ _ (by simp),Below.heap_setCell _ _ _ _ (by simp),Below.heap_setCell _ _ _ _ (by simp)];exact V.out
    have A:=a1.out.below u l r.out.size;rw[<-g];have U:=a0.out.low u;refine leaves_cons (f:=83) (args:=#[z9 w.heap.size]) (by simp) (by simp[go_sem]) ?_;refine(zay X .returning w.heap.size d m n _ _ R A.blk).mono ?_;rintro e u' L⟨rfl,rfl,k⟩;have y:w.heap.size+1≠d:=by omega
    have i:=A.ended;rw[<-k]at i;have F:KpM [d] w.heap.size w L:=by rw[k];exact(U.set (by simp) _).set (by simp) _
    refine⟨_,KS rfl _ _ (w.heap.size+1) _ _ _ _ rfl (by rw[k,Below.heap_setCell _ _ _ _ y,Below.heap_setCell _ _ _ _ y];exact O) underlying108 rfl (by kernel_rfl),?_⟩;exact⟨by rw[a7.out];rfl,i,F⟩
   ·go_wp2_with fail;obtain⟨X,g⟩:∃X,X=((((D.setCell ⟨w.heap.size+1,0,N⟩ (I J 0)).setCell ⟨w.heap.size+1,1,N⟩ (I J 0)).setCell ⟨w.heap.size+1,2,N⟩ (I J x.1)).setCell ⟨w.heap.size+1,3,N⟩ (.iface t v)):=⟨_,rfl⟩;have u:Below w.heap.size D X:=by rw[g];exact((((Below.refl _ _).setCell (p:=⟨w.heap.size+1,0,N⟩) (Nat.le_succ _) _).setCell (p:=⟨w.heap.size+1,1,N⟩) (Nat.le_succ _) _).setCell (p:=⟨w.heap.size+1,2,N⟩) (Nat.le_succ _) _).setCell (p:=⟨w.heap.size+1,3,N⟩) (Nat.le_succ _) _
    have O:X.heap[w.heap.size+1]?=S (.cells #[I J 0,I J 0,I J x.1,.iface t v] 108 (0,0)):=by rw[g,zo (zo (zo (zo a2.out _) _) _) _];rfl
    have R:X.heap[w.heap.size]?=S (zh (z9 d) 113):=by rw[g,Below.heap_setCell _ _ _ _ (by simp),Below.heap_setCell _ _ _ _ (by simp),Below.heap_setCell _ _ _ _ (by simp),Below.heap_setCell _ _ _ _ (by simp)];exact V.out
    have A:=a1.out.below u l r.out.size;rw[<-g];have U:=a0.out.low u;refine leaves_cons (f:=83) (args:=#[z9 w.heap.size]) (by simp) (by simp[go_sem]) ?_;refine(zay X .returning w.heap.size d m n _ _ R A.blk).mono ?_;rintro e u' L⟨rfl,rfl,k⟩;have y:w.heap.size+1≠d:=by omega
    have i:=A.ended;rw[<-k]at i;have F:KpM [d] w.heap.size w L:=by rw[k];exact(U.set (by simp) _).set (by simp) _
    refine⟨_,KS rfl _ _ (w.heap.size+1) _ _ _ _ rfl (by rw[k,Below.heap_setCell _ _ _ _ y,Below.heap_setCell _ _ _ _ y];exact O) underlying108 rfl (by kernel_rfl),?_⟩;exact⟨by rw[a7.out];rfl,i,F⟩
abbrev Qd(a:Nat)(b:Value)(n:Nat):Obj:=.cells #[z9 a,b,I J n] 224 (0,0)
theorem zch{w:World}{d f n:Nat}{g:Value}(h:w.heap[d]?=S (Qd f g n))(a b c:Obj):((((w.alloc a).alloc b).alloc c).setCell ⟨d,2,N⟩ (I J ((n:Int)+1))).drew.heap[w.heap.size]?=S a/\((((w.alloc a).alloc b).alloc c).setCell ⟨d,2,N⟩ (I J ((n:Int)+1))).drew.heap[w.heap.size+1]?=S b/\((((w.alloc a).alloc b).alloc c).setCell ⟨d,2,N⟩ (I J ((n:Int)+1))).drew.heap[w.heap.size+1+1]?=S c/\((((w.alloc a).alloc b).alloc c).setCell ⟨d,2,N⟩ (I J ((n:Int)+1))).drew.heap[d]?=S (Qd f g (n+1))/\KpM [d] w.heap.size w ((((w.alloc a).alloc b).alloc c).setCell ⟨d,2,N⟩ (I J ((n:Int)+1))).drew:=by
 have j:=zd h;have e:(((w.alloc a).alloc b).alloc c).heap[d]?=S (Qd f g n):=by rw[(Qs w a b c).block _ j];exact h
 refine⟨?_,?_,?_,?_,?_⟩;·show(World.setCell _ _ _).heap[w.heap.size]?=_;rw[Below.heap_setCell _ _ _ _ (by simp;omega)];exact Vj w a b c
 ·show(World.setCell _ _ _).heap[w.heap.size+1]?=_;rw[Below.heap_setCell _ _ _ _ (by simp;omega)];exact Vk w a b c
 ·show(World.setCell _ _ _).heap[w.heap.size+1+1]?=_;rw[Below.heap_setCell _ _ _ _ (by simp;omega)];exact Vl w a b c
 ·show(World.setCell _ _ _).heap[d]?=_;rw[zo e];rfl
 ·have i:=Qs w a b c;refine⟨rfl,rfl,rfl,?_,λk e l=> ?_⟩;·show w.heap.size<=(World.setCell _ _ _).heap.size;simp[World.setCell];omega
  ·show(World.setCell _ _ _).heap[k]?=_;rw[Below.heap_setCell _ _ _ _ (by simpa using l),i.block _ e]
theorem zci(w:World)(f i n:Nat)(o:Value)(g:Nat)(k:Array Value)(z:n<=100000000)(h:w.heap[f]?=S (Qd i o n)):Calls P 150 #[z9 f,.func (.func g) #[] k] w λe j=>∃x:Nat×Nat×Nat,e=.returned (zT x)/\j.heap[x.1]?=S (zh (z9 i) 113)/\j.heap[x.2.1]?=S (zh (I J n) 3)/\j.heap[x.2.2]?=S (zh (.func (.func g) #[] k) 226)/\j.heap[f]?=S (Qd i o (n+1))/\KpM [f] w.heap.size w j/\w.heap.size<=x.1/\w.heap.size<=x.2.1/\w.heap.size<=x.2.2:=by
 have q:=z8 h;have u:=zi h;have l:=za h;have H:=z6 h;have y:∀(r:Fn) (first p:Array Value) (w:World),(Instr.makeFunc r first p).run P w=.ok (.func r first p) w:=λ_ _ _ _=>rfl;have m:∀a b c,(((w.alloc a).alloc b).alloc c).heap[f]?=S (Qd i o n):=λa b c=>by rw[(Qs w a b c).block _ (zd h)];exact h
 have s:∀a b c,(((w.alloc a).alloc b).alloc c).cell? ⟨f,0,N⟩=S (z9 i):=λa b c=>z8 (m a b c) 0;have t:∀a b c,(((w.alloc a).alloc b).alloc c).cell? ⟨f,2,N⟩=S (I J n):=λa b c=>z8 (m a b c) 2;have v:∀a b c,(((w.alloc a).alloc b).alloc c).frozen? ⟨f,2,N⟩=false:=λa b c=>zi (m a b c) 2;clear h m;go_enter func150,ntmps150;go_wp2_with fail;go_region;all_goals go_wp2_with fail
 ·go_ret;have d:=zch H.out (zh (.func (.func g) #[] k) 226) (zh (z9 i) 113) (zh (I J n) 3);exact⟨(w.heap.size+1,w.heap.size+1+1,w.heap.size),rfl,d.2.1,d.2.2.1,d.1,d.2.2.2.1,d.2.2.2.2,by show _<=_+1;omega,by show _<=_+1+1;omega,Nat.le_refl _⟩
 ·go_ret;have d:=zch H.out (zh (.func (.func g) #[] k) 226) (zh (I J n) 3) (zh (z9 i) 113);exact⟨(w.heap.size+1+1,w.heap.size+1,w.heap.size),rfl,d.2.2.1,d.2.1,d.1,d.2.2.2.1,d.2.2.2.2,by show _<=_+1+1;omega,by show _<=_+1;omega,Nat.le_refl _⟩
end
section
open Go.RowKit
def Kj(m:Nat):Nd->Prop
 | .choice a=>∀k∈a,k<m
 | .seq a=>∀k∈a,k<m
 | .ahead k _=>k<m
 | .maybe k=>k<m
 | .plus k=>k<m
 |_=>True
theorem zcg{m c:Nat}(h:m<=c):∀{d:Nd},Kj m d->Kj c d
 | .choice _,a=>λk b=>Nat.lt_of_lt_of_le (a k b) h
 | .seq _,a=>λk b=>Nat.lt_of_lt_of_le (a k b) h
 | .ahead _ _,a=>Nat.lt_of_lt_of_le a h
 | .maybe _,a=>Nat.lt_of_lt_of_le a h
 | .plus _,a=>Nat.lt_of_lt_of_le a h
 | .name _,_=>trivial
 | .lit _,_=>trivial
 | .cls _,_=>trivial
 | .any,_=>trivial
theorem Y5{a:List (Nat×Nat×Nat)}{k:Nat}(h:k<a.length)(y:List (Nat×Nat×Nat)):clV (a++y) k=clV a k:=by unfold clV;rw[List.getD_eq_getElem?_getD,List.getD_eq_getElem?_getD,List.getElem?_append_left h]
def Clo(w:World)(c:Nat)(N:List Nd)(a:List (Nat×Nat×Nat)):Prop:=∀n d,N[n]?=S d->Kj N.length d/\∃b,w.heap[(a.getD n (0,0,0)).1]?=S (zh (z9 c) 113)/\w.heap[(a.getD n (0,0,0)).2.1]?=S (zh (I J n) 3)/\w.heap[(a.getD n (0,0,0)).2.2]?=S (zh b 226)/\Inn w c a n b d
structure Mk(w:World)(kb mb nb:Nat)(N:List Nd)(bx:List (Nat×Nat×Nat))(S:Nat->Prop):Prop where
 blk:w.heap[kb]?=some (Qd mb (.map (some nb)) N.length)
 mlt:mb<w.heap.size
 len:bx.length=N.length
 nk:¬S kb
 lt:∀g,S g->g<w.heap.size
 clo:∀w':World,w.heap.size<=w'.heap.size->(∀g,S g->w'.heap[g]?=w.heap[g]?)->Clo w' mb N bx
structure Up(kb:Nat)(w w':World):Prop where
 size:w.heap.size<=w'.heap.size
 old:∀b,b<w.heap.size->b≠kb->w'.heap[b]?=w.heap[b]?
theorem Up.of_kpM{a:Nat}{w c:World}(h:KpM [a] w.heap.size w c):Up a w c:=⟨h.size,λb d e=>h.block b d (by simpa using e)⟩
theorem Up.of_below{d:Nat}{w a:World}(h:Below w.heap.size w a):Up d w a:=⟨h.size,λb c _=>h.block b c⟩
theorem Up.box{a e f n:Nat}{w c:World}(u:Up a w c)(d:w.heap[a]?=S (Qd e (.map (S f)) n)){b:Nat}{v:Value}{t:TypeId}(h:w.heap[b]?=S (zh v t)):c.heap[b]?=S (zh v t):=by rw[u.old b (zd h) (by rintro rfl;rw[d]at h;simp at h)];exact h
theorem Yu.app{w:World}{e:Nat}{b:List (Nat×Nat×Nat)}{c:List Nat}{a:Option Addr}(h:Yu w e b c a)(n:∀k∈c,k<b.length)(y:List (Nat×Nat×Nat)):Yu w e (b++y) c a:=by intro j d;obtain⟨g,f,i,l,m⟩:=h j d;exact⟨g,f,i,l,by rw[Y5 (n _ (List.getElem_mem d))];exact m⟩
theorem Inn.app{t:Nat}{w:World}{p:List (Nat×Nat×Nat)}{n:Nat}{s:Value}{d:Nd}(h:Inn w t p n s d)(o:Kj p.length d)(z:n<p.length)(y:List (Nat×Nat×Nat)):Inn w t (p++y) n s d:=by
 cases d with
 |choice A=>obtain⟨r,a,c,e,f,g,m⟩:=h;exact⟨r,a,c,e,f,g.app o y,m⟩
 |seq A=>obtain⟨q,r,a,c,e,f,g,m,x⟩:=h;exact⟨q,r,a,c,e,f,g,m.app o y,x⟩
 |ahead k B=>obtain⟨q,j,v,e,f,g,m⟩:=h;exact⟨q,j,v,e,f,by rw[Y5 o];exact g,m⟩
 |maybe k=>obtain⟨j,e,f⟩:=h;exact⟨j,e,by rw[Y5 o];exact f⟩
 |plus k=>obtain⟨j,u,e,f,g⟩:=h;exact⟨j,u,e,by rw[Y5 o];exact f,by rw[Y5 z];exact g⟩
 |name i=>exact h|lit b=>exact h|cls l=>exact h|any=>exact h
theorem Clo.push{e:Nat}{N:List Nd}{a:List (Nat×Nat×Nat)}{w:World}(h:Clo w e N a)(c:a.length=N.length){x:Nat×Nat×Nat}{g:Value}{d:Nd}(z:Kj N.length d)(r:w.heap[x.1]?=S (zh (z9 e) 113))(s:w.heap[x.2.1]?=S (zh (I J N.length) 3))(t:w.heap[x.2.2]?=S (zh g 226))(u:Inn w e (a++[x]) N.length g d):Clo w e (N++[d]) (a++[x]):=by
 intro n l b;rw[List.length_append];by_cases j:n<N.length
 ·rw[List.getElem?_append_left j]at b;obtain⟨k,A,m,o,p,q⟩:=h n l b;have i:n<a.length:=by rw[c];exact j
  have f:(a++[x]).getD n (0,0,0)=a.getD n (0,0,0):=by rw[List.getD_eq_getElem?_getD,List.getD_eq_getElem?_getD,List.getElem?_append_left i]
  rw[f];exact⟨zcg (Nat.le_add_right _ _) k,A,m,o,p,q.app (by rw[c];exact k) i [x]⟩
 ·have y:=(List.getElem?_eq_some_iff.mp b).1;have v:n=N.length:=by simp at y;omega
  subst v;rw[List.getElem?_append_right (Nat.le_refl _),Nat.sub_self]at b;simp only[List.getElem?_cons_zero,Option.some.injEq]at b;subst b;have f:(a++[x]).getD N.length (0,0,0)=x:=by rw[List.getD_eq_getElem?_getD,List.getElem?_append_right (by rw[c];exact Nat.le_refl _),c,Nat.sub_self];rfl
  rw[f];exact⟨zcg (Nat.le_add_right _ _) z,g,r,s,t,u⟩
theorem Mk.now{c b d:Nat}{N:List Nd}{a:List (Nat×Nat×Nat)}{S:Nat->Prop}{w:World}(h:Mk w c b d N a S):Clo w b N a:=h.clo w (Nat.le_refl _) (λ_ _=>rfl)
theorem Mk.same{a d e:Nat}{N:List Nd}{c:List (Nat×Nat×Nat)}{S:Nat->Prop}{w w':World}(h:Mk w a d e N c S)(b:w.heap.size<=w'.heap.size)(k:∀g,S g->w'.heap[g]?=w.heap[g]?)(j:w'.heap[a]?=w.heap[a]?):Mk w' a d e N c S:=⟨by rw[j];exact h.blk,Nat.lt_of_lt_of_le h.mlt b,h.len,h.nk,λg x=>Nat.lt_of_lt_of_le (h.lt g x) b,λl f i=>h.clo l (Nat.le_trans b f) (λg x=>(i g x).trans (k g x))⟩
theorem Mk.below{c d e:Nat}{N:List Nd}{b:List (Nat×Nat×Nat)}{S:Nat->Prop}{w w':World}(h:Mk w c d e N b S)(a:Below w.heap.size w w'):Mk w' c d e N b S:=h.same a.size (λg x=>a.block g (h.lt g x)) (a.block _ (zd h.blk))
def QA(w:World)(g:Nat):Prop:=∃a,w.heap[g]?=S (.cells a 313 (0,0))
def GrS(w:World)(S a:Nat->Prop):Prop:=∀g,a g->S g\/w.heap.size<=g\/QA w g
theorem QA.back{d f i n g:Nat}{w e:World}(k:w.heap[d]?=S (Qd f (.map (S i)) n))(b:∃m,e.heap[d]?=S (Qd f (.map (S i)) m))(u:Up d w e)(h:QA e g):w.heap.size<=g\/QA w g:=by
 rcases Nat.lt_or_ge g w.heap.size with c|c;·obtain⟨j,a⟩:=h;obtain⟨m,b⟩:=b;refine .inr ⟨j,?_⟩;rw[<-u.old g c (by rintro rfl;rw[b]at a;simp at a)];exact a
 ·exact .inl c
theorem GrS.refl(w:World)(S:Nat->Prop):GrS w S S:=λ_ h=>.inl h
theorem GrS.trans{a e f n:Nat}{w b:World}{S c d:Nat->Prop}(i:GrS w S c)(j:GrS b c d)(l:w.heap[a]?=some (Qd e (.map (some f)) n))(o:∃m,b.heap[a]?=some (Qd e (.map (some f)) m))(u:Up a w b):GrS w S d:=λg k=>by
 rcases j g k with h|h|h;·exact i g h
 ·exact .inr (.inl (Nat.le_trans u.size h))
 ·exact .inr (h.back l o u)
theorem GrS.below{w w':World}{S b c:Nat->Prop}(f:GrS w S b)(i:GrS w' b c)(d:Below w.heap.size w w'):GrS w S c:=λg k=>by
 rcases i g k with h|h|⟨e,j⟩;·exact f g h
 ·exact .inr (.inl (Nat.le_trans d.size h))
 ·rcases Nat.lt_or_ge g w.heap.size with a|a;·exact .inr (.inr ⟨e,by rw[<-d.block g a];exact j⟩)
  ·exact .inr (.inl a)
end
section
open Go.RowKit
attribute [local go_sem ↓] Go.wp_at_zero Go.wp_at_succ
abbrev Qg(b g h:Nat)(N:List Nd)(f:List (Nat×Nat×Nat))(S:Nat->Prop)(d:Nd)(w:World):Ending->World->Prop:=λe c=>∃x a,e=.returned (zT x)/\Mk c b g h (N++[d]) (f++[x]) a/\KpM [b] w.heap.size w c/\GrS w S a
theorem zeo{a:List (Nat×Nat×Nat)}{N:List Nd}(h:a.length=N.length)(x:Nat×Nat×Nat):clV (a++[x]) N.length=zT x:=by unfold clV;rw[List.getD_eq_getElem?_getD,List.getElem?_append_right (by rw[h];exact Nat.le_refl _),h,Nat.sub_self];rfl
theorem zab{i l q:Nat}{N:List Nd}{m:List (Nat×Nat×Nat)}{S:Nat->Prop}{W:World}(h:Mk W i l q N m S)(D:N.length<=100000000)(g:Nat)(n:Array Value){d:Nd}(G:Kj N.length d)(E:Nat->Prop)(k:∀b,E b->b<W.heap.size/\b≠i)(B:∀(x:Nat×Nat×Nat) (c:World),W.heap.size<=c.heap.size->(∀b,E b->c.heap[b]?=W.heap[b]?)->Inn c l (m++[x]) N.length (.func (.func g) #[] n) d):Calls P 150 #[z9 i,.func (.func g) #[] n] W λe c=>∃x r,e=.returned (zT x)/\Mk c i l q (N++[d]) (m++[x]) r/\KpM [i] W.heap.size W c/\∀b,r b->S b\/E b\/W.heap.size<=b:=by
 refine(zci W i l N.length (.map (some q)) g n D h.blk).mono ?_;rintro e c⟨x,z,s,t,u,A,v,H,J,K⟩;have o:=Up.of_kpM v;have p:=o.size;refine⟨x,λb=>S b\/E b\/(W.heap.size<=b/\b<c.heap.size),z,⟨by rw[List.length_append];exact A,Nat.lt_of_lt_of_le h.mlt p,by simp[h.len],?_,?_,?_⟩,v,?_⟩
 ·rintro(a|a|a);·exact h.nk a
  ·exact(k _ a).2 rfl
  ·have:=zd h.blk;omega
 ·rintro b(a|a|a);·have:=h.lt b a;omega
  ·have:=(k b a).1;omega
  ·exact a.2
 ·intro y w j;have F:=h.clo y (Nat.le_trans p w) (λb f=>(j b (.inl f)).trans (o.old b (h.lt b f) (λe=>h.nk (e▸f))));exact F.push h.len G ((j _ (.inr (.inr ⟨H,zd s⟩))).trans s) ((j _ (.inr (.inr ⟨J,zd t⟩))).trans t) ((j _ (.inr (.inr ⟨K,zd u⟩))).trans u) (B x y (Nat.le_trans p w) (λb f=>(j b (.inr (.inl f))).trans (o.old b (k b f).1 (k b f).2)))
 ·rintro b(a|a|a);·exact .inl a
  ·exact .inr (.inl a)
  ·exact .inr (.inr a.1)
theorem Kf{m n s:Nat}{N:List Nd}{k:List (Nat×Nat×Nat)}{S:Nat->Prop}{w:World}(h:Mk w m n s N k S)(F:N.length<=100000000){W:World}(i:Below w.heap.size w W)(g:Nat)(l:Array Value){d:Nd}(G:Kj N.length d)(E:∀(x:Nat×Nat×Nat) (f:World),(∀(b:Nat) (v:Value) (t:TypeId),w.heap.size<=b->W.heap[b]?=some (zh v t)->f.heap[b]?=some (zh v t))->(∀b,QA w b->f.heap[b]?=w.heap[b]?)->Inn f n (k++[x]) N.length (.func (.func g) #[] l) d):Calls P 150 #[z9 m,.func (.func g) #[] l] W (Qg m n s N k S d w):=by
 have r:=i.size;have q:∀b,QA w b->b<w.heap.size:=λb ⟨y,j⟩=>zd j;refine(zab (h.below i) F g l G (λb=>(w.heap.size<=b/\b<W.heap.size)\/QA w b) ?_ ?_).mono ?_
 ·rintro b(a|a);·exact⟨a.2,by have:=zd h.blk;omega⟩
  ·refine⟨by have:=q b a;omega,?_⟩;rintro rfl;obtain⟨y,j⟩:=a;rw[h.blk]at j;simp at j
 ·intro x f H o;exact E x f (λb v t c p=>(o b (.inl ⟨c,zd p⟩)).trans p) (λb c=>(o b (.inr c)).trans (i.block b (q b c)))
 ·rintro e f⟨x,u,z,A,B,D⟩;refine⟨x,u,z,A,(KpM.of_below i).trans (B.mono r),λb c=> ?_⟩;rcases D b c with a|(a|a)|a;·exact .inl a
  ·exact .inr (.inl a.1)
  ·exact .inr (.inr a)
  ·exact .inr (.inl (Nat.le_trans r a))
theorem zbQ{b i k:Nat}{N:List Nd}{a:List (Nat×Nat×Nat)}{S:Nat->Prop}{w:World}(h:Mk w b i k N a S)(p:N.length<=100000000)(j:Nat)(g:j<N.length):Calls P 200 #[z9 b,clV a j] w (Qg b i k N a S (.maybe j) w):=by
 have r:j<a.length:=by rw[h.len];exact g
 have c:=z6 (Kf h p (zc w (zh (clV a j) 226)) 212 #[z9 w.heap.size] (d:=.maybe j) g (λx t q _=>⟨w.heap.size,rfl,by rw[Y5 r];exact q _ _ _ (Nat.le_refl _) (zk w _)⟩));have s:∀(f:Fn) (first e:Array Value) (w:World),(Instr.makeFunc f first e).run P w=.ok (.func f first e) w:=λ_ _ _ _=>rfl;clear h;simp only[clV,zT]at c|-;generalize (a.getD j (0,0,0)).1=v at *;generalize (a.getD j (0,0,0)).2.1=y at *;generalize (a.getD j (0,0,0)).2.2=z at *;go_enter func200,ntmps200;go_wp2_with fail;refine c.out.mono ?_;rintro _ u⟨x,l,rfl,m,n,o⟩;go_wp2_with fail;go_ret;exact⟨x,l,rfl,m,n,o⟩
theorem zaV{e f n:Nat}{N:List Nd}{a:List (Nat×Nat×Nat)}{S:Nat->Prop}{w:World}(h:Mk w e f n N a S)(t:N.length<=100000000)(j:Nat)(m:j<N.length)(b:Bool):Calls P 191 #[z9 e,clV a j,.bool b] w (Qg e f n N a S (.ahead j b) w):=by
 have u:j<a.length:=by rw[h.len];exact m
 have q:=z8 h.blk;have l:=za h.blk;have g:=z6 (Kf h t (Qs w (zh (clV a j) 226) (zh (.bool b) 4) (zh (z9 f) 113)) 202 #[z9 (w.heap.size+1+1),z9 w.heap.size,z9 (w.heap.size+1)] (d:=.ahead j b) m (λx y c _=>⟨w.heap.size+1+1,w.heap.size,w.heap.size+1,rfl,c _ _ _ (by omega) (Vl w _ _ _),by rw[Y5 u];exact c _ _ _ (Nat.le_refl _) (Vj w _ _ _),c _ _ _ (by omega) (Vk w _ _ _)⟩));have v:∀(k:Fn) (first i:Array Value) (w:World),(Instr.makeFunc k first i).run P w=.ok (.func k first i) w:=λ_ _ _ _=>rfl;clear h;simp only[clV,zT]at g|-;generalize (a.getD j (0,0,0)).1=A at *;generalize (a.getD j (0,0,0)).2.1=B at *;generalize (a.getD j (0,0,0)).2.2=D at *;go_enter func191,ntmps191;go_wp2_with fail;refine g.out.mono ?_;rintro _ z⟨x,o,rfl,p,r,s⟩;go_wp2_with fail;go_ret;exact⟨x,o,rfl,p,r,s⟩
theorem zfX{c a j:Nat}{N:List Nd}{e:List (Nat×Nat×Nat)}{S:Nat->Prop}{w:World}(h:Mk w c a j N e S)(r:N.length<=100000000)(b:z7)(s:b.length<=20):Calls P 208 #[z9 c,.string ⟨b.toArray⟩] w (Qg c a j N e S (.lit b) w):=by have q:=z8 h.blk;have l:=za h.blk;have k:=z6 (Kf h r (QY w (zh (.string ⟨b.toArray⟩) 9) (zh (z9 a) 113)) 216 #[z9 (w.heap.size+1),z9 w.heap.size] (d:=.lit b) trivial (λx u i _=>⟨w.heap.size+1,w.heap.size,rfl,i _ _ _ (by omega) (by have:=zk (w.alloc (zh (.string ⟨b.toArray⟩) 9)) (zh (z9 a) 113);simpa using this),i _ _ _ (Nat.le_refl _) (by rw[zm _ _ (by simp)];exact zk w _),s⟩));have t:∀(g:Fn) (first f:Array Value) (w:World),(Instr.makeFunc g first f).run P w=.ok (.func g first f) w:=λ_ _ _ _=>rfl;clear h;go_enter func208,ntmps208;go_wp2_with fail;refine k.out.mono ?_;rintro _ v⟨x,m,rfl,n,o,p⟩;go_wp2_with fail;go_ret;exact⟨x,m,rfl,n,o,p⟩
theorem ziM{b a i:Nat}{N:List Nd}{c:List (Nat×Nat×Nat)}{S:Nat->Prop}{w:World}(h:Mk w b a i N c S)(p:N.length<=100000000):Calls P 210 #[z9 b,.func (.func 211) #[] #[]] w (Qg b a i N c S .any w):=by have q:=z8 h.blk;have l:=za h.blk;have j:=z6 (Kf h p (QY w (zh (.func (.func 211) #[] #[]) 287) (zh (z9 a) 113)) 220 #[z9 (w.heap.size+1),z9 w.heap.size] (d:=.any) trivial (λx s g _=>⟨w.heap.size+1,w.heap.size,rfl,g _ _ _ (by omega) (by have:=zk (w.alloc (zh (.func (.func 211) #[] #[]) 287)) (zh (z9 a) 113);simpa using this),g _ _ _ (Nat.le_refl _) (by rw[zm _ _ (by simp)];exact zk w _)⟩));have r:∀(f:Fn) (first e:Array Value) (w:World),(Instr.makeFunc f first e).run P w=.ok (.func f first e) w:=λ_ _ _ _=>rfl;clear h;go_enter func210,ntmps210;go_wp2_with fail;refine j.out.mono ?_;rintro _ t⟨x,k,rfl,m,n,o⟩;go_wp2_with fail;go_ret;exact⟨x,k,rfl,m,n,o⟩
theorem ziN{f c n:Nat}{N:List Nd}{o:List (Nat×Nat×Nat)}{S:Nat->Prop}{w b:World}(h:Mk b f c n N o S)(e:Below b.heap.size b w)(B:N.length<=100000000)(a:Nat)(u:Value)(l:List zR)(i:w.heap[a]?=some (zh u 235))(s:b.heap.size<=a)(m:Qr b 0 u l)(E:l.length<=20)(k:w.heap[f]?=some (Qd c (.map (some n)) N.length)):Calls P 210 #[z9 f,.func (.func 217) #[] #[z9 a]] w (Qg f c n N o S (.cls l) b):=by have q:=z8 k;have K:=za k;have F:a<w.heap.size:=zd i;have G:=e.size;have t:=z6 (Kf h B (W:=(w.alloc (zh (.func (.func 217) #[] #[z9 a]) 287)).alloc (zh (z9 c) 113)) (e.trans ((QY w _ _).mono e.size)) 220 #[z9 (w.heap.size+1),z9 w.heap.size] (d:=.cls l) trivial (λx L j H=>⟨w.heap.size+1,w.heap.size,a,u,rfl,j _ _ _ (by omega) (by have:=zk (w.alloc (zh (.func (.func 217) #[] #[z9 a]) 287)) (zh (z9 c) 113);simpa using this),j _ _ _ (by omega) (by rw[zm _ _ (by simp)];exact zk w _),j _ _ _ s (by rw[(QY w _ _).block _ F];exact i),Z6 m (λg D=>H g (Zr m D)),E⟩));have J:∀(r:Fn) (first p:Array Value) (w:World),(Instr.makeFunc r first p).run P w=.ok (.func r first p) w:=λ_ _ _ _=>rfl;clear h e m i k s G;go_enter func210,ntmps210;go_wp2_with fail;refine t.out.mono ?_;rintro _ M⟨x,v,rfl,y,z,A⟩;go_wp2_with fail;go_ret;exact⟨x,v,rfl,y,z,A⟩
theorem zer{b f g:Nat}{N:List Nd}{c:List (Nat×Nat×Nat)}{S:Nat->Prop}{w:World}(h:Mk w b f g N c S)(o:N.length<=100000000)(u:Value)(l:List zR)(a:Qr w 0 u l)(p:l.length<=20):Calls P 209 #[z9 b,u] w (Qg b f g N c S (.cls l) w):=by have i:=z6 (ziN h (zc w (zh u 235)) o w.heap.size u l (zk w _) (Nat.le_refl _) a p (by rw[zm _ _ (zd h.blk)];exact h.blk));have q:∀(e:Fn) (first d:Array Value) (w:World),(Instr.makeFunc e first d).run P w=.ok (.func e first d) w:=λ_ _ _ _=>rfl;obtain⟨r,s,rfl⟩:=zl a;clear h a;go_enter func209,ntmps209;go_wp2_with fail;refine i.out.mono ?_;rintro _ t⟨x,j,rfl,k,m,n⟩;go_wp2_with fail;go_ret;exact⟨x,j,rfl,k,m,n⟩
theorem zc7{n t u:Nat}{m:List Nd}{d:List (Nat×Nat×Nat)}{S:Nat->Prop}{w:World}(h:Mk w n t u m d S)(hN:m.length<=100000000)(j:Nat)(hj:j<m.length):Calls P 201 #[z9 n,clV d j] w (Qg n t u m d S (.plus j) w):=by
 have a2:j<d.length:=by rw[h.len];exact hj
 have l:=za h.blk;obtain⟨W,i⟩:∃W,W=(w.alloc (zh (clV d j) 226)).alloc (zh .nilFunc 226):=⟨_,rfl⟩;have B:Below w.heap.size w W:=by rw[i];exact QY _ _ _
 have G:W.heap[n]?=some (Qd t (.map (some u)) m.length):=by rw[B.block _ (zd h.blk)];exact h.blk
 have w0:W.heap[w.heap.size]?=some (zh (clV d j) 226):=by rw[i,zm _ _ (by simp)];exact zk _ _
 have w1:W.heap[w.heap.size+1]?=some (zh .nilFunc 226):=by rw[i];have:=zk (w.alloc (zh (clV d j) 226)) (zh .nilFunc 226);simpa using this
 have HR:=z6 (zci W n t m.length (.map (some u)) 213 #[z9 w.heap.size,z9 (w.heap.size+1)] hN G);have a6:∀(q:Fn) (first V:Array Value) (w:World),(Instr.makeFunc q first V).run P w=.ok (.func q first V) w:=λ_ _ _ _=>rfl;have a8:∀(a:Addr) (q:Fn) (x c:Array Value) (W:World),(store a (.func q x c)).run P W=stored P W a (.func q x c) .plain:=λa q x c W=>run_store P W a _ _ rfl;have f:=z6 h;have z:=z6 B;have U:=z6 G;have H0:=z6 w0;have H1:=z6 w1;have HW:=z6 i;have F:clV d j=zT (d.getD j (0,0,0)):=rfl;have a0:=z6 F;rw[F];clear h B G w0 w1 i F;generalize hx:d.getD j (0,0,0)=xx at *;clear hx;have i:=HW.out;rw[a0.out]at i;go_enter func201,ntmps201;go_wp2_with fail;rw[<-i];clear i;refine HR.out.mono ?_;rintro _ w2⟨x,rfl,X,Y,Z,h5,A,H,K,L⟩;have r:=Up.of_kpM A;have y0:=r.box U.out H0.out;have v:=r.box U.out H1.out;have z1:=z8 v;have f1:=zi v;have l1:=za v;have a1:=z6 y0;have y:=z6 v;have M:=z6 X;have O:=z6 Y;have R:=z6 Z;have H5:=z6 h5;have H6:=z6 A;have HI:=z6 (And.intro H (And.intro K L));clear X Y Z h5 A r y0 v H K L;simp only[zT];go_wp2_with fail;go_ret;have n1:x.1≠w.heap.size+1:=λe=>by have:=M.out;rw[e,y.out]at this;simp at this
 have n2:x.2.1≠w.heap.size+1:=λe=>by have:=O.out;rw[e,y.out]at this;simp at this
 have n3:x.2.2≠w.heap.size+1:=λe=>by have:=R.out;rw[e,y.out]at this;simp at this
 have nk:n≠w.heap.size+1:=by omega
 have D:KpM [n] w.heap.size w (w2.setCell ⟨w.heap.size+1,0,N⟩ (zT x)):=((KpM.of_below z.out).trans (H6.out.mono z.out.size)).low ((Below.refl _ _).setCell (p:=⟨w.heap.size+1,0,N⟩) (Nat.le_succ _) _);obtain⟨k,o⟩:∃k,k=w2.setCell ⟨w.heap.size+1,0,N⟩ (zT x):=⟨_,rfl⟩;have k5:k.heap[n]?=some (Qd t (.map (some u)) (m.length+1)):=by rw[o,Below.heap_setCell _ _ _ _ nk];exact H5.out
 have k2:k.heap[x.1]?=some (zh (z9 t) 113):=by rw[o,Below.heap_setCell _ _ _ _ n1];exact M.out
 have k3:k.heap[x.2.1]?=some (zh (I J m.length) 3):=by rw[o,Below.heap_setCell _ _ _ _ n2];exact O.out
 have k4:k.heap[x.2.2]?=some (zh (.func (.func 213) #[] #[z9 w.heap.size,z9 (w.heap.size+1)]) 226):=by rw[o,Below.heap_setCell _ _ _ _ n3];exact R.out
 have k0:k.heap[w.heap.size]?=some (zh (clV d j) 226):=by rw[o,Below.heap_setCell _ _ _ _ (by simp)];exact a1.out
 have k1:k.heap[w.heap.size+1]?=some (zh (zT x) 226):=by rw[o,zo y.out];rfl
 rw[<-o]at D|-;have r:=Up.of_kpM D;have a3:=r.size;have a4:=z.out.size;have a7:=f.out.mlt;have a5:=zd f.out.blk;obtain⟨H,K,L⟩:=HI.out;refine⟨x,λb=>S b\/(w.heap.size<=b/\b<k.heap.size),rfl,⟨by rw[List.length_append];exact k5,by omega,by simp[f.out.len],?_,?_,?_⟩,D,?_⟩
 ·rintro(g|g);·exact f.out.nk g
  ·omega
 ·rintro b(g|g);·have:=f.out.lt b g;omega
  ·exact g.2
 ·intro w4 hs s;have hc:=f.out.clo w4 (Nat.le_trans a3 hs) (λb E=>(s b (.inl E)).trans (r.old b (f.out.lt b E) (λe=>f.out.nk (e▸E))));refine hc.push f.out.len hj ((s _ (.inr ⟨by omega,zd k2⟩)).trans k2) ((s _ (.inr ⟨by omega,zd k3⟩)).trans k3) ((s _ (.inr ⟨by omega,zd k4⟩)).trans k4) ⟨w.heap.size,w.heap.size+1,rfl,?_,?_⟩;·rw[Y5 a2];exact(s _ (.inr ⟨Nat.le_refl _,zd k0⟩)).trans k0
  ·rw[zeo f.out.len];exact(s _ (.inr ⟨Nat.le_succ _,zd k1⟩)).trans k1
 ·rintro b(g|g);·exact .inl g
  ·exact .inr (.inl g.1)
theorem zgE{j a m:Nat}{N:List Nd}{n:List (Nat×Nat×Nat)}{S:Nat->Prop}{w:World}(h:Mk w j a m N n S)(r:N.length<=100000000)(k:List z7)(e:Zd w m k)(b:z7)(f:b.length<=2000):Calls prog 207 #[z9 j,.string ⟨b.toArray⟩] w (Qg j a m N n S (.name (idx0 k b)) w):=by
 have q:=z8 h.blk;have l:=za h.blk;generalize g:idx0 k b=i;have s:=z6 (Kf h r ((QY w (zh (z9 a) 113) (zh (I J i) 3)).drew) 215 #[z9 w.heap.size,z9 (w.heap.size+1)] (d:=.name i) trivial (λx E c _=>⟨w.heap.size,w.heap.size+1,rfl,c _ _ _ (Nat.le_refl _) (by show(World.alloc _ _).heap[w.heap.size]?=_;rw[zm _ _ (by simp)];exact zk w _),c _ _ _ (by omega) (by have:=zk (w.alloc (zh (z9 a) 113)) (zh (I J i) 3);show(World.alloc _ _).heap[w.heap.size+1]?=_;simpa using this)⟩));have t:=z6 (Kf h r ((QY w (zh (I J i) 3) (zh (z9 a) 113)).drew) 215 #[z9 (w.heap.size+1),z9 w.heap.size] (d:=.name i) trivial (λx E c _=>⟨w.heap.size+1,w.heap.size,rfl,c _ _ _ (by omega) (by have:=zk (w.alloc (zh (I J i) 3)) (zh (z9 a) 113);show(World.alloc _ _).heap[w.heap.size+1]?=_;simpa using this),c _ _ _ (Nat.le_refl _) (by show(World.alloc _ _).heap[w.heap.size]?=_;rw[zm _ _ (by simp)];exact zk w _)⟩));have A:=(e.below (Below.refl _ _).drew).look b f;have B:=λO=>(e.below (zc w O).drew).look b f;have D:=λO P=>(e.below (QY w O P).drew).look b f;rw[g]at A;simp only[g]at B D;have F:∀(p:Fn) (first o:Array Value) (w:World),(Instr.makeFunc p first o).run prog w=.ok (.func p first o) w:=λ_ _ _ _=>rfl;clear h e g;go_enter func207,ntmps207;go_wp2_with fail;go_region;all_goals go_wp2_with fail
 all_goals
  first|with_reducible refine s.out.mono ?_|with_reducible refine t.out.mono ?_
  rintro _ G⟨x,u,rfl,v,y,z⟩;go_wp2_with fail;go_ret;exact⟨x,u,rfl,v,y,z⟩
end
def Goes(N a:List Nd):Prop:=∀(n:Nat) (d:Nd),N[n]?=S d->a[n]?=S d
theorem Goes.refl(N:List Nd):Goes N N:=λ_ _ h=>h
theorem Goes.trans{A B C:List Nd}(a:Goes A B)(b:Goes B C):Goes A C:=λn d h=>b n d (a n d h)
theorem Goes.app(N M:List Nd):Goes N (N++M):=λn d h=>by rw[List.getElem?_append_left (List.getElem?_eq_some_iff.mp h).1];exact h
mutual
theorem DnP.goes{N N':List Nd}(g:Goes N N'){names:List z7}{n:Nat}:∀(p:zC),DnP N names n p->DnP N' names n p
 | .name b,h=>by simp only[DnP]at h|-;exact g _ _ h
 | .lit b,h=>by simp only[DnP]at h|-;exact g _ _ h
 | .cls l,h=>by simp only[DnP]at h|-;exact g _ _ h
 | .any,h=>by simp only[DnP]at h|-;exact g _ _ h
 | .group c,h=>by
  simp only[DnP]at h|-
  obtain⟨ks,h1,h2⟩:=h
  exact⟨ks,g _ _ h1,DnC.goes g c h2⟩
theorem DnT.goes{N N':List Nd}(g:Goes N N'){names:List z7}{n:Nat}:∀(t:Term),DnT N names n t->DnT N' names n t
 | .mk a p b,h=>by
  simp only[DnT]at h|-
  obtain⟨i,h1,j,h2,h3⟩:=h
  refine⟨i,?_,j,?_,DnP.goes g p h3⟩
  ·split
   ·rename_i ha;rw[if_pos ha]at h1;exact h1
   ·rename_i ha;rw[if_neg ha]at h1;exact g _ _ h1
  ·split
   ·rename_i hb;rw[if_pos hb]at h2;exact h2
   ·rename_i hb
    rw[if_neg hb]at h2
    split
    ·rename_i hc;rw[if_pos hc]at h2;exact g _ _ h2
    ·rename_i hc
     rw[if_neg hc]at h2
     split
     ·rename_i hd;rw[if_pos hd]at h2;exact g _ _ h2
     ·rename_i hd
      rw[if_neg hd]at h2
      obtain⟨q,h4,h5⟩:=h2
      exact⟨q,g _ _ h4,g _ _ h5⟩
theorem DnS.goes{N N':List Nd}(g:Goes N N'){names:List z7}{ks:List Nat}:∀(s:List Term),DnS N names ks s->DnS N' names ks s
 |[],h=>by simp only[DnS]at h|-;exact h
 |t::s,h=>by
  simp only[DnS]at h|-
  obtain⟨k,ks',h1,h2,h3⟩:=h
  exact⟨k,ks',h1,DnT.goes g t h2,DnS.goes g s h3⟩
theorem DnC.goes{N N':List Nd}(g:Goes N N'){names:List z7}{qs:List Nat}:∀(c:List (List Term)),DnC N names qs c->DnC N' names qs c
 |[],h=>by simp only[DnC]at h|-;exact h
 |s::c,h=>by
  simp only[DnC]at h|-
  obtain⟨q,qs',ks,h1,h2,h3,h4⟩:=h
  exact⟨q,qs',ks,h1,g _ _ h2,DnS.goes g s h3,DnC.goes g c h4⟩
end
theorem DnS.snoc{N:List Nd}{c:List z7}:∀{s:List Term} {ks:List Nat} {t:Term} {k:Nat},DnS N c ks s->DnT N c k t->DnS N c (ks++[k]) (s++[t])
 |[],ks,t,k,h,b=>by simp only[DnS]at h;subst h;simp only[List.nil_append,DnS];exact⟨k,[],rfl,b,rfl⟩
 |u::s,ks,t,k,h,b=>by simp only[DnS]at h;obtain⟨a,f,rfl,d,e⟩:=h;simp only[List.cons_append,DnS];exact⟨a,f++[k],rfl,d,DnS.snoc e b⟩
theorem DnC.snoc{N:List Nd}{f:List z7}:∀{c:List (List Term)} {b:List Nat} {s:List Term} {q:Nat} {ks:List Nat},DnC N f b c->N[q]?=S (.seq ks)->DnS N f ks s->DnC N f (b++[q]) (c++[s])
 |[],b,s,q,ks,h,d,e=>by simp only[DnC]at h;subst h;simp only[List.nil_append,DnC];exact⟨q,[],ks,rfl,d,e,rfl⟩
 |u::c,b,s,q,ks,h,d,e=>by simp only[DnC]at h;obtain⟨a,l,k,rfl,g,i,j⟩:=h;simp only[List.cons_append,DnC];exact⟨a,l++[q],k,rfl,g,i,DnC.snoc j d e⟩
end Go.Proofs.YtiganlkabilblaaGreatDoor
