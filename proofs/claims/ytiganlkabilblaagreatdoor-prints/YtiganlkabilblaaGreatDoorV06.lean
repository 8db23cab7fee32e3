import Derived.Test.YtiganlkabilblaaGreatDoorV05
import Derived.Deep.OwnRows
set_option linter.all false
set_option maxHeartbeats 64000000
set_option maxRecDepth 100000
namespace Go.Proofs.YtiganlkabilblaaGreatDoor
open Tryz
open Tryz renaming prog->P
open Option renaming some->S,none->N
open Value renaming int->I
open IntKind renaming i64->J
section
open Go.RowKit Go.WideMaps Go.Maps
def ZJ(a:List z7)(B:List Bool)(l:List z7):List Bool:=l.foldl (λB b=>B.set (idx0 a b) true) B
theorem UO(a:List z7)(B:List Bool)(l:List z7):(ZJ a B l).length=B.length:=by
 induction l generalizing B with
 |nil=>rfl|cons b l c=>show(ZJ a (B.set _ true) l).length=_;rw[c];simp
theorem zbO(a:List z7)(B:List Bool)(l b:List z7):ZJ a B (l++b)=ZJ a (ZJ a B l) b:=by simp[ZJ,List.foldl_append]
theorem zQ.kpo{w i:World}{c a b:Nat}{g:List z7}{E B:List Bool}(h:zQ w c a g E)(f:Kp b w.heap.size w i)(d:w.heap[b]?=S (zH B))(k:a≠b):zQ i c a g E:=by refine⟨h.map.same (f.block c h.map.lt ?_),by rw[f.block _ (zd h.emp) k];exact h.emp,h.len,h.pos,h.le⟩;intro e;subst e;obtain⟨D,⟨m,l,j,_⟩,_⟩:=h.map;rw[j]at d;simp[zH]at d
def Jm(a n:Nat):Value:=.slice (S ⟨a,0,N⟩) n n
def U4(k:Nat):Prop:=∀(w:World) (f d a:Nat) (b:List z7) (E B:List Bool) (A:Nat->Prop) (c:Z5) (u:Value),zQ w f d b E->w.heap[a]?=S (zH B)->B.length=b.length->d≠a->Zt w A c u->(∀g,A g->g≠a)->Qt c<=k->Calls P 131 #[zI f d b.length,u,Jm a b.length] w λe h=>e=.returned (.tuple #[])/\Kp a w.heap.size w h/\h.heap[a]?=S (zH (ZJ b B (ZC (Eb b E) c)))
theorem zgw(k:Nat)(o:∀V,V<k->U4 V)(w:World)(J y i:Nat)(a:List z7)(E B:List Bool)(A:Nat->Prop)(p:zC)(v:Value)(hF:zQ w J y a E)(j:w.heap[i]?=S (zH B))(D:B.length=a.length)(a4:y≠i)(m:zp w A p v)(Z:∀g,A g->g≠i)(q:Y6 p<=k):Calls P 165 #[zI J y a.length,v,Jm i a.length] w λe W=>e=.returned (.tuple #[])/\Kp i w.heap.size w W/\W.heap[i]?=S (zH (ZJ a B (Zy (Eb a E) p))):=by
 have a8:=hF.le;have a5:=hF.pos;have M:=zd j;have G:=z8 j;have a3:=zi j;have t:Hid (w.heap[i]?=S (zH B)):=j;simp only[zI,Jm];have s:∀O,w.heap[i]?=S (zH B)->(w.alloc O).heap[i]?=S (zH B):=λO h=>by rw[zm _ _ M];exact h
 cases p with
 |name b=>
  simp only[zp]at m;obtain⟨rfl,a0⟩:=m;have a7:=YU b a5;have n:∀d f,Below w.heap.size w ((w.alloc d).alloc f):=λd f=>(zc _ _).alloc (by simp) _;have a9:=λd f=>(hF.map.below (n d f)).look b a0;have r:ZJ a B (Zy (Eb a E) (.name b))=B.set (idx0 a b) true:=rfl;rw[r];have a6:w.cell? ⟨i,idx0 a b,N⟩=S (.bool (B.getD (idx0 a b) false)):=by
   have hh:idx0 a b<B.length:=by omega
   rw[G];simp[hh]
  generalize idx0 a b=ix at *;clear hF o q j r n s D G;have x:=Ui;go_enter func165,ntmps165;go_wp2_with fail;go_end0;refine⟨rfl,(((Kp.refl _ _ _).setRb _ _).alloc (by simp) _).alloc (by simp) _,?_⟩;rw[zm _ _ (by simp;omega),zm _ _ (by simp;omega),zo t.out,qI]
 |lit b=>simp only[zp]at m;subst m;have x:=Uh;have z:=Ug;clear hF o q j;go_enter func165,ntmps165;go_wp2_with fail;go_end0;exact⟨rfl,Kp.of (zc _ _),s _ t.out⟩|cls l=>simp only[zp]at m;obtain⟨u,rfl,_⟩:=m;have x:=Ue;have z:=Ud;clear hF o q j;go_enter func165,ntmps165;go_wp2_with fail;go_end0;exact⟨rfl,Kp.of (zc _ _),s _ t.out⟩
 |any=>simp only[zp]at m;subst m;have x:=Uc;have z:=Vn;clear hF o q j;go_enter func165,ntmps165;go_wp2_with fail;go_end0;exact⟨rfl,Kp.of (zc _ _),s _ t.out⟩
 |group c=>
  simp only[zp]at m;obtain⟨u,us,rfl,H,U⟩:=m;obtain⟨ua,uc,rfl⟩:=zl H.1;have K:Qt c<k:=by simp only[Y6]at q;omega
  have r:ZJ a B (Zy (Eb a E) (.group c))=ZJ a B (ZC (Eb a E) c):=rfl;rw[r];have n:∀d f,Below w.heap.size w ((w.alloc d).alloc f):=λd f=>(zc _ _).alloc (by simp) _;have F:=λd f=>o _ K ((w.alloc d).alloc f) J y i a E B A c (.slice ua c.length uc) (hF.below (n d f)) (by rw[(n d f).block _ M];exact j) D a4 (Zt.kept (ZF (n d f)) ⟨us,H,U⟩) Z (Nat.le_refl _);simp only[zI,Jm]at F;have x:=Uf;have z:=Vo;clear hF o q K H U r j n G a3 s D;go_enter func165,ntmps165;go_wp2_with fail;refine(F _ _).mono ?_;rintro e w1⟨rfl,R,L⟩;have Y:=(show Hid _ from R);have X:=(show Hid _ from L);clear F R L;go_wp2_with fail;go_end0;exact⟨rfl,(Kp.of ((zc _ _).alloc (by simp) _)).trans (Y.out.mono (by simp;omega)),X.out⟩
theorem zeX(E:z7->Bool)(s:List Term)(j:Nat)(a:j<s.length):Q2 E (s.drop j)=JR E s[j]++(if Zu E s[j]then Q2 E (s.drop (j+1))else[]):=by rw[List.drop_eq_getElem_cons a];simp only[Q2]
theorem zeV(E:z7->Bool)(c:List (List Term))(j:Nat)(a:j<c.length):ZC E (c.drop j)=Q2 E c[j]++ZC E (c.drop (j+1)):=by rw[List.drop_eq_getElem_cons a];simp only[ZC]
structure Yt(W:World)(fb:Nat)(B:List Bool)(wr:World):Prop where
 kp:Kp fb W.heap.size W wr
 row:wr.heap[fb]?=some (zH B)
theorem zgy(k:Nat)(hC:∀k',k'<k->U4 k'):U4 k:=by
 intro w x v b a E B A c u hF ab ax ah hp hA hk;obtain⟨R,⟨l,y⟩,aj⟩:=hp;obtain⟨ua,uc,rfl⟩:=zl l;have b5:=KR l;have aW:=zd ab;have aT:Hid (c.length=R.length):=zA.length aj;obtain⟨W,hW⟩:∃W,W=w.alloc (ZB x v a.length):=⟨_,rfl⟩;have H:Below w.heap.size w W:=by rw[hW];exact zc _ _
 have b3:W.heap.size=w.heap.size+1:=by rw[hW];simp
 have aU:W.heap[w.heap.size]?=S (ZB x v a.length):=by rw[hW];exact zk _ _
 have HF:Hid (zQ W x v a E):=hF.below H;have X:Hid (W.heap[b]?=S (zH B)):=by show _=_;rw[H.block _ aW];exact ab
 have aN:Hid (W.ownsRow 0 215 1 (.slice ua c.length uc) c.length R):=Zv l H;have aI:Hid (∀g,(Value.slice ua c.length uc).ownBlock=S g->A g):=y;have aP:Hid (zA W A c R):=zA.kept (ZF H) c R aj;have aK:Hid (Below w.heap.size w W):=H;have aL:Hid (B.length=a.length):=ax;have HA:Hid (∀g,A g->g≠b):=hA;have ay:Hid (∀wr,Kp b W.heap.size W wr->Sm A W wr):=λwr hk=>zas X.out hk hA;simp only[zI,Jm];clear hF ab l aj H ax hA y;go_enter func131,ntmps131;go_wp2_with fail;rw[<-hW];go_loopg[12] c.length (λm i wr=>∃(j:Nat) (f:List Bool),m=c.length-j/\j<=c.length/\i=I J j/\Yt W b f wr/\f.length=a.length/\Hid (ZJ a B (ZC (Eb a E) c)=ZJ a f (ZC (Eb a E) (c.drop j))));case atStart=>exact⟨0,B,rfl,Nat.zero_le _,rfl,⟨Kp.refl _ _ _,X.out⟩,aL.out,rfl⟩
 case round=>
  obtain⟨j,f,rfl,hj,rfl,hR,av,hH⟩:=hrel;have Y:Hid (Yt W b f wr):=hR;have al:Hid (f.length=a.length):=av;have ba:=hR.kp.size;clear hR av;by_cases af:j<c.length
  ·have ae:j<R.length:=by have:=aT.out;omega
   obtain⟨g,rfl,aA,aF⟩:=Jk aN.out (by omega);have aE:g≠b:=HA.out g (aI.out g rfl);have c0:wr.cell? ⟨g,j,N⟩=S (R[j]'ae):=by rw[JS Y.out.kp aF aE,aA _ (by omega)];exact List.getElem?_eq_getElem ae
   have b1:=zA.get aP.out j af ae;have aB:=Nat.le_trans (KH c j af) hk;have aa:=zeV (Eb a E) c j af;obtain⟨F,⟨l,y⟩,a5⟩:=b1;obtain⟨sa,sc,aH⟩:=zl l;rw[aH]at c0 l y;have aV:=KR l;have b8:(j:Int)<c.length:=by omega
   obtain⟨s,hs⟩:∃s,s=c[j]:=⟨_,rfl⟩;rw[<-hs]at l a5 aB c0 aV y aa;have aM:Hid (ZC (Eb a E) (c.drop j)=Q2 (Eb a E) s++ZC (Eb a E) (c.drop (j+1))):=aa;have ar:Hid (s.length=F.length):=zD.length a5;have aO:Hid (W.ownsRow 0 249 3 (.slice sa s.length sc) s.length (QM s F)):=l;have aJ:Hid (∀g,(Value.slice sa s.length sc).ownBlock=S g->A g):=y;have aS:Hid (zD W A s F):=a5;clear aa aH aA hs l a5 y aF aE;have au:Hid (∀V,Yt W b (ZJ a f (Q2 (Eb a E) s)) V->∃(j':Nat) (d:List Bool),c.length-(j+1)=c.length-j'/\j'<=c.length/\Value.int IntKind.i64 ((j:Int)+1)=I J j'/\Yt W b d V/\d.length=a.length/\Hid (ZJ a B (ZC (Eb a E) c)=ZJ a d (ZC (Eb a E) (c.drop j')))):=by intro V hx;refine⟨j+1,_,rfl,by omega,by go_num,hx,by rw[UO];exact al.out,?_⟩;show _=_;rw[hH.out,aM.out,zbO]
   go_wp2_with fail;go_loopg[18] s.length (λm i V=>∃(i1:Nat) (d:List Bool),m=s.length-i1/\i1<=s.length/\i=I J i1/\Yt W b d V/\d.length=a.length/\Hid (ZJ a f (Q2 (Eb a E) s)=ZJ a d (Q2 (Eb a E) (s.drop i1))));case atStart=>exact⟨0,f,rfl,Nat.zero_le _,rfl,Y.out,al.out,rfl⟩
   case round=>
    obtain⟨i,d,rfl,hi,rfl,Z,aw,hS⟩:=hrel;have h:Hid (Yt W b d wr):=Z;have am:Hid (d.length=a.length):=aw;have ak:=Z.kp.size;have a8:wr.heap[w.heap.size]?=S (ZB x v a.length):=by rw[Z.kp.block _ (by omega) (by omega)];exact aU
    have az:=z8 a8;have b2:Hid (wr.heap[w.heap.size]?=S (ZB x v a.length)):=a8;clear Z aw a8;by_cases a4:i<s.length
    ·have ad:i<F.length:=by have:=ar.out;omega
     obtain⟨G,rfl,a0,a2⟩:=Jk aO.out (by omega);have a1:G≠b:=HA.out G (aJ.out G rfl);obtain⟨t0,t1,t2⟩:=V1 s F ar.out i a4;have d0:wr.cell? ⟨G,i *3,N⟩=S (I .u8 s[i].ahead.toNat):=by rw[JS h.out.kp a2 a1,a0 _ (by omega)];exact t0
     have d1:wr.cell? ⟨G,i *3+1,N⟩=S (F[i]'ad):=by rw[JS h.out.kp a2 a1,a0 _ (by omega)];exact t1
     have d2:wr.cell? ⟨G,i *3+2,N⟩=S (I .u8 s[i].behind.toNat):=by rw[JS h.out.kp a2 a1,a0 _ (by omega)];exact t2
     have D:=zD.get aS.out i a4 ad;have a9:Jx s[i]<=k:=Nat.le_trans (KI s i a4) aB;have ai:=zeX (Eb a E) s i a4;have b9:(i:Int)<s.length:=by omega
     obtain⟨t,ht⟩:∃t,t=s[i]:=⟨_,rfl⟩;obtain⟨vv,aG⟩:∃vv,vv=F[i]'ad:=⟨_,rfl⟩;rw[<-ht]at d0 d2 D a9 ai;rw[<-aG]at d1 D;have aq:Hid (Q2 (Eb a E) (s.drop i)=JR (Eb a E) t++(if Zu (Eb a E) t then Q2 (Eb a E) (s.drop (i+1))else[])):=ai;clear ai ht aG t0 t1 t2 a0 a2 a1;have aR:Hid (Zk W A t vv):=D;obtain⟨L,n,M⟩:=t;simp only[Zk]at D;simp only[Jx]at a9;obtain⟨vt,vx,rfl⟩:=zp.oneCell D;simp only[Term.ahead,Term.behind]at d0 d2;have aQ:Hid (zp W A n (.iface vt vx)):=D;clear D;have ag:=λO=>zgw k hC (wr.alloc O) x v b a E d A n (.iface vt vx) (HF.out.kpo (h.out.kp.alloc ak O) X.out ah) (by rw[zm _ _ (zd h.out.row)];exact h.out.row) am.out ah (zp.kept (ay.out _ (h.out.kp.alloc ak O)) n _ aQ.out) HA.out a9;simp only[zI,Jm]at ag;have bb:w.heap.size<wr.heap.size:=by omega
     go_wp2_with fail;refine(ag _).mono ?_;rintro e r⟨rfl,U,aC⟩;have aZ:=U.size;simp at aZ;have a3:Kp b W.heap.size W r:=(h.out.kp.alloc ak _).trans (U.mono (by simp;omega));have b7:b<wr.heap.size:=zd h.out.row;have b6:∀o,r.cell? ⟨wr.heap.size,o,N⟩=(#[I .u8 L.toNat,.iface vt vx,I .u8 M.toNat]:Array Value)[o]?:=λo=>by rw[JS U (by simp) (by omega)];exact z8 (zk _ _) o
     have b4:∀o,r.cell? ⟨w.heap.size,o,N⟩=(#[.map (S x),.slice (S ⟨v,0,N⟩) a.length a.length]:Array Value)[o]?:=λo=>by rw[JS U (by simp;omega) (by omega),World.cell?_alloc_lt _ _ _ (by simp only[];omega)];exact az o
     have z:=zeG r x v a E A (.mk L n M) (.iface vt vx) (HF.out.kpo a3 X.out ah) (Zk.kept (ay.out _ a3) _ _ aR.out);simp only[zI,QN,Term.ahead,Term.behind]at z;have ap:Hid (Kp b W.heap.size W r):=a3;have an:Hid (r.heap[b]?=S (zH (ZJ a d (Zy (Eb a E) n)))):=aC;have ao:Hid (JR (Eb a E) (.mk L n M)=Zy (Eb a E) n):=by show _=_;simp only[JR]
     have bc:w.heap.size<r.heap.size:=by omega
     have bd:wr.heap.size<r.heap.size:=by omega
     have aD:b<r.heap.size:=by omega
     clear ag U aC a3 az d0 d1 d2;cases K:Zu (Eb a E) (.mk L n M)with
     |true=>
      rw[K]at z;have a6:Hid (Zu (Eb a E) (.mk L n M)=true):=K;clear K;go_wp2_with fail;refine z.mono ?_;rintro e w2⟨rfl,q⟩;have b0:=q.size;have p:Yt W b (ZJ a d (Zy (Eb a E) n)) w2:=⟨ap.out.trans (Kp.of (q.mono (by omega))),by rw[q.block _ aD];exact an.out⟩;clear z q;go_wp2_with fail;go_roundg (s.length-(i+1));case measure=>omega
      case rel=>refine⟨i+1,_,rfl,by omega,by go_num,p,by rw[UO];exact am.out,?_⟩;show _=_;rw[hS.out,aq.out,ao.out,if_pos a6.out,zbO]
     |false=>
      rw[K]at z;have a6:Hid (Zu (Eb a E) (.mk L n M)=false):=K;clear K;go_wp2_with fail;refine z.mono ?_;rintro e w2⟨rfl,q⟩;have b0:=q.size;have p:Yt W b (ZJ a f (Q2 (Eb a E) s)) w2:=by refine⟨ap.out.trans (Kp.of (q.mono (by omega))),?_⟩;rw[q.block _ aD,an.out,hS.out,aq.out,ao.out,a6.out];simp
      have a7:=au.out w2 p;clear z q p;go_wp2_with fail;go_roundg (c.length-(j+1));case measure=>omega
      case rel=>exact a7
    ·have aX:i=s.length:=by omega
     have p:Yt W b (ZJ a f (Q2 (Eb a E) s)) wr:=by refine⟨h.out.kp,?_⟩;rw[h.out.row,hS.out,aX,List.drop_length];rfl
     have a7:=au.out wr p;clear hS p;go_wp2_with fail;go_roundg (c.length-(j+1));case measure=>omega
     case rel=>exact a7
  ·have aY:j=c.length:=by omega
   have p:wr.heap[b]?=S (zH (ZJ a B (ZC (Eb a E) c))):=by rw[Y.out.row,hH.out,aY,List.drop_length];rfl
   have HN:=(show Hid _ from p);clear hH p;go_wp2_with fail;go_end0;exact⟨rfl,(Kp.of aK.out).trans (Y.out.kp.mono (by omega)),HN.out⟩
theorem zgx(k:Nat):U4 k:=by
 induction k using Nat.strongRecOn with
 |ind k a=>exact zgy k a
abbrev Mat:=Nat->Nat->Bool
def Wm(M:Mat):Nat->Mat
 |0=>M
 |m+1=>λi j=>Wm M m i j||(Wm M m i m&&Wm M m m j)
theorem zdI(M:Mat)(m t:Nat):Wm M (m+1) m t=Wm M m m t:=by simp only[Wm];cases Wm M m m m<;>cases Wm M m m t<;>rfl
def Jl(N:Nat)(f:Nat->Bool):List Bool:=(List.range N).map f
theorem zi2(N:Nat)(f:Nat->Bool):(Jl N f).length=N:=by simp[Jl]
structure ZD(w:World)(xb N:Nat)(rbs:List Nat)(M:Mat):Prop where
 rows:w.heap[xb]?=some (.cells (rbs.map (Jm · N)).toArray 74 (0,0))
 len:rbs.length=N
 row:∀i (h:i<rbs.length),w.heap[rbs[i]]?=some (zH (Jl N (M i)))
 nodup:rbs.Nodup
theorem ZD.congr{w:World}{d N:Nat}{c:List Nat}{M a:Mat}(h:ZD w d N c M)(e:∀i j,i<N->j<N->M i j=a i j):ZD w d N c a:=by refine⟨h.rows,h.len,λi b=> ?_,h.nodup⟩;rw[h.row i b];congr 2;unfold Jl;apply List.map_congr_left;intro j f;exact e i j (by rw[<-h.len];exact b) (by simpa using f)
structure KpM(rbs:List Nat)(B:Nat)(w w':World):Prop where
 os:w'.os=w.os
 tape:w'.tape=w.tape
 output:w'.output=w.output
 size:w.heap.size<=w'.heap.size
 block:∀k,k<B->k∉rbs->w'.heap[k]?=w.heap[k]?
theorem KpM.refl(a:List Nat)(B:Nat)(w:World):KpM a B w w:=⟨rfl,rfl,rfl,Nat.le_refl _,λ_ _ _=>rfl⟩
theorem KpM.trans{d:List Nat}{B:Nat}{a b c:World}(h:KpM d B a b)(k:KpM d B b c):KpM d B a c:=⟨k.os.trans h.os,k.tape.trans h.tape,k.output.trans h.output,Nat.le_trans h.size k.size,λi e f=>(k.block i e f).trans (h.block i e f)⟩
theorem KpM.set{c:List Nat}{B:Nat}{a w:World}(h:KpM c B a w){b o:Nat}(d:b∈c)(u:Value):KpM c B a (w.setCell ⟨b,o,N⟩ u):=h.trans ⟨rfl,rfl,rfl,by simp[World.setCell],λk _ f=>Below.heap_setCell _ _ _ _ (λe=>f (e▸d))⟩
theorem ZD.cell{w:World}{c a:Nat}{b:List Nat}{M:Mat}(h:ZD w c a b M)(i:Nat)(d:i<b.length):w.cell? ⟨c,i,N⟩=S (.slice (S ⟨b[i],0,N⟩) a a):=by rw[z8 h.rows];simp[d,Jm]
theorem ZD.at{w:World}{e b:Nat}{a:List Nat}{M:Mat}(h:ZD w e b a M)(i j:Nat)(c:i<a.length)(d:j<b):w.cell? ⟨a[i],j,N⟩=S (.bool (M i j)):=by rw[z8 (h.row i c)];simp[Jl,d]
theorem zi3(N:Nat)(f:Nat->Bool)(t:Nat):(Jl N f).set t true=Jl N (λj=>if j=t then true else f j):=by
 apply List.ext_getElem;·simp[Jl]
 ·intro i a b;simp only[Jl,List.getElem_set,List.getElem_map,List.getElem_range];by_cases e:t=i;·subst e;simp
  ·have:¬i=t:=λh=>e h.symm;simp[e,this]
theorem ZD.set{w:World}{k c:Nat}{a:List Nat}{M:Mat}(h:ZD w k c a M)(f t:Nat)(l:f<a.length):ZD (w.setCell ⟨a[f],t,N⟩ (.bool true)) k c a (λi j=>if i=f/\j=t then true else M i j):=by
 refine⟨?_,h.len,λi g=> ?_,h.nodup⟩
 ·rw[Below.heap_setCell];·exact h.rows
  ·intro e;have d:=h.row f l;simp only[]at e;rw[<-e,h.rows]at d;simp[zH]at d
 ·by_cases e:i=f;·subst e;rw[zo (h.row i g),qI,zi3];congr 3;funext j;by_cases b:j=t<;>simp[b]
  ·have m:a[i]≠a[f]:=λb=>e ((List.getElem_inj h.nodup).1 b);rw[Below.heap_setCell _ _ _ _ m,h.row i g];congr 3;funext j;simp[e]
theorem ZD.frozen{w:World}{d b:Nat}{a:List Nat}{M:Mat}(h:ZD w d b a M)(i:Nat)(c:i<a.length)(o:Nat):w.frozen? ⟨a[i],o,N⟩=false:=zi (h.row i c) o
theorem ziV(w:World)(d a:Nat)(c:List Nat)(M:Mat)(F:ZD w d a c M)(hN:a<=20):Calls P 132 #[.slice (S ⟨d,0,N⟩) a a] w λe w'=>e=.returned (.tuple #[])/\ZD w' d a c (Wm M a)/\KpM c w.heap.size w w':=by
 have O:Hid (c.length=a):=F.len;have a7:Hid (ZD w d a c M):=F;clear F;go_enter func132,ntmps132;go_wp2_with fail;go_loopg[7] a (λn i wr=>∃m:Nat,n=a-m/\m<=a/\i=I J m/\ZD wr d a c (Wm M m)/\KpM c w.heap.size w wr);case atStart=>exact⟨0,rfl,Nat.zero_le _,rfl,a7.out,KpM.refl _ _ _⟩
 case round=>
  obtain⟨m,rfl,hm,rfl,U,V⟩:=hrel;have K:Hid (ZD wr d a c (Wm M m)):=U;have L:Hid (KpM c w.heap.size w wr):=V;clear U V;by_cases Z:m<a
  ·have ae:(m:Int)<a:=by omega
   go_wp2_with fail;go_loopg[12] a (λn i wx=>∃f:Nat,n=a-f/\f<=a/\i=I J f/\ZD wx d a c (λi j=>if i<f then Wm M (m+1) i j else Wm M m i j)/\KpM c w.heap.size w wx);case atStart=>exact⟨0,rfl,Nat.zero_le _,rfl,K.out.congr (λi j _ _=>by simp),L.out⟩
   case round=>
    obtain⟨f,rfl,hf,rfl,hA2,W⟩:=hrel;have s:Hid (ZD wr d a c (λi j=>if i<f then Wm M (m+1) i j else Wm M m i j)):=hA2;have A:Hid (KpM c w.heap.size w wr):=W;clear hA2 W;by_cases a9:f<a
    ·have ad:(f:Int)<a:=by omega
     have p:f<c.length:=by rw[O.out];exact a9
     have c1:=s.out.cell f p;have x:=s.out.at f m p Z;simp only[Nat.lt_irrefl,if_false]at x;cases q:Wm M m f m with
     |false=>
      rw[q]at x;have v:ZD wr d a c (λi j=>if i<f+1 then Wm M (m+1) i j else Wm M m i j):=by
       refine s.out.congr (λi j _ _=> ?_);by_cases g:i<f;·simp[g,Nat.lt_succ_of_lt g]
       ·by_cases k:i=f;·subst k;simp[Wm,q]
        ·have l:¬i<f+1:=by omega
         simp[g,l]
      clear q;go_wp2_with fail;go_roundg (a-(f+1));case measure=>omega
      case rel=>exact⟨f+1,rfl,by omega,by go_num,v,A.out⟩
     |true=>
      rw[q]at x;have HV:Hid (Wm M m f m=true):=q;clear q;go_wp2_with fail;go_loopg[25] a (λn i wy=>∃t:Nat,n=a-t/\t<=a/\i=I J t/\ZD wy d a c (λi j=>if i<f then Wm M (m+1) i j else if i=f/\j<t then Wm M (m+1) i j else Wm M m i j)/\KpM c w.heap.size w wy);case atStart=>exact⟨0,rfl,Nat.zero_le _,rfl,s.out.congr (λi j _ _=>by simp),A.out⟩
      case round=>
       obtain⟨t,rfl,ht,rfl,hA3,X⟩:=hrel;have o:Hid (ZD wr d a c (λi j=>if i<f then Wm M (m+1) i j else if i=f/\j<t then Wm M (m+1) i j else Wm M m i j)):=hA3;have B:Hid (KpM c w.heap.size w wr):=X;clear hA3 X;by_cases a0:t<a
       ·have af:(t:Int)<a:=by omega
        have a2:m<c.length:=by rw[O.out];exact Z
        have d1:=o.out.cell f p;have d2:=o.out.cell m a2;have y:=o.out.at m t a2 a0;have R:=o.out.at f t p a0;have d5:=o.out.frozen f p t;have a4:(if m<f then Wm M (m+1) m t else if m=f/\t<t then Wm M (m+1) m t else Wm M m m t)=Wm M m m t:=by rw[zdI];simp
        rw[a4]at y;obtain⟨a5,a3⟩:∃a5,wr.cell? ⟨c[f],t,N⟩=S (.bool a5):=⟨_,R⟩;obtain⟨D,H⟩:∃b,b=c[f]:=⟨_,rfl⟩;obtain⟨bm,Y⟩:∃b,b=c[m]:=⟨_,rfl⟩;have aa:D∈c:=by rw[H];exact List.getElem_mem p
        have z:=o.out.set f t p;rw[<-H]at d1 d5 a3 z;rw[<-Y]at d2 y;clear R a4 H Y c1 x;cases r:Wm M m m t with
        |false=>
         rw[r]at y;have G:ZD wr d a c (λi j=>if i<f then Wm M (m+1) i j else if i=f/\j<t+1 then Wm M (m+1) i j else Wm M m i j):=by
          refine o.out.congr (λi j _ _=> ?_);by_cases g:i<f;·simp[g]
          ·by_cases k:i=f
           ·subst k;by_cases l:j<t;·simp[l,Nat.lt_succ_of_lt l]
            ·by_cases u:j=t;·subst u;simp[Wm,r]
             ·have E:¬j<t+1:=by omega
              simp[l,E]
           ·simp[g,k]
         clear r z a3;go_wp2_with fail;go_roundg (a-(t+1));case measure=>omega
         case rel=>exact⟨t+1,rfl,by omega,by go_num,G,B.out⟩
        |true=>
         rw[r]at y;have G:ZD (wr.setCell ⟨D,t,N⟩ (.bool true)) d a c (λi j=>if i<f then Wm M (m+1) i j else if i=f/\j<t+1 then Wm M (m+1) i j else Wm M m i j):=by
          refine z.congr (λi j _ _=> ?_);by_cases g:i<f
          ·have k:¬i=f:=by omega
           simp[g,k]
          ·by_cases k:i=f
           ·subst k;by_cases u:j=t;·subst u;simp[Wm,r,HV.out]
            ·by_cases l:j<t;·simp[l,u,Nat.lt_succ_of_lt l]
             ·have E:¬j<t+1:=by omega
              simp[l,u,E]
           ·simp[g,k]
         have a6:Hid (KpM c w.heap.size w (wr.setCell ⟨D,t,N⟩ (.bool true))):=B.out.set aa _;clear r z;go_wp2_with fail;go_roundg (a-(t+1));case measure=>omega
         case rel=>exact⟨t+1,rfl,by omega,by go_num,G,a6.out⟩
       ·have ab:t=a:=by omega
        have v:ZD wr d a c (λi j=>if i<f+1 then Wm M (m+1) i j else Wm M m i j):=by
         refine o.out.congr (λi j _ hj=> ?_);by_cases g:i<f;·simp[g,Nat.lt_succ_of_lt g]
         ·by_cases k:i=f
          ·subst k;have:j<t:=by omega
           simp[this]
          ·have l:¬i<f+1:=by omega
           simp[g,k,l]
        clear ab;go_wp2_with fail;go_roundg (a-(f+1));case measure=>omega
        case rel=>exact⟨f+1,rfl,by omega,by go_num,v,B.out⟩
    ·have a8:f=a:=by omega
     have v:ZD wr d a c (Wm M (m+1)):=by
      refine s.out.congr (λi j hi _=> ?_);have:i<f:=by omega
      simp[this]
     clear a8;go_wp2_with fail;go_roundg (a-(m+1));case measure=>omega
     case rel=>exact⟨m+1,rfl,by omega,by go_num,v,A.out⟩
  ·have a1:m=a:=by omega
   have HE:Hid (ZD wr d a c (Wm M a)):=by have h:=K.out;rw[a1]at h;exact h
   clear a1;go_wp2_with fail;go_end0;exact⟨rfl,HE.out,L.out⟩
end
section
open Go.RowKit Go.WideMaps Go.Maps Go.Deep
theorem infoBool:(prog.info? 4).map (λi=>(i.zero,i.size,i.bytes))=S (S (.bool false),1,1):=by kernel_rfl
theorem infoBools:(prog.info? 74).map (λi=>(i.zero,i.size,i.bytes))=S (S (.slice N 0 0),1,24):=by kernel_rfl
def Jn(b:List Nat)(a:Nat):Obj:=.cells (b.map (Jm · a)++List.replicate (a-b.length) (Value.slice N 0 0)).toArray 74 (0,0)
theorem zbM(n:Nat)(a:n<=20)(w:World):(Instr.makeSlice 74 (I J n) (I J n)).run P w=.ok (.slice (S ⟨w.heap.size,0,N⟩) n n) (w.alloc (zH (List.replicate n false))):=by rw[run_make_row' 74 4 (.bool false) 1 underlying74 infoBool rfl J J n (by omega) (by omega) w];congr 3;apply Array.toList_inj.1;rw[toList_madeCells_one];simp
theorem zgt(n:Nat)(a:n<=20)(w:World):(Instr.makeSlice 255 (I J n) (I J n)).run P w=.ok (.slice (S ⟨w.heap.size,0,N⟩) n n) (w.alloc (Jn [] n)):=by rw[run_make_row' 255 74 (.slice N 0 0) 24 underlying255 infoBools rfl J J n (by omega) (by omega) w];congr 3;apply Array.toList_inj.1;rw[toList_madeCells_one];simp
def Za(a:List z7)(E:List Bool)(g:List ze):Mat:=λi j=>(ZJ a (List.replicate a.length false) (ZC (Eb a E) ((g[i]?.map (·.choice)).getD []))).getD j false
theorem zi4(a:List z7)(E:List Bool)(g:List ze)(i:Nat)(c:i<g.length):ZJ a (List.replicate a.length false) (ZC (Eb a E) g[i].choice)=Jl a.length (Za a E g i):=by
 apply List.ext_getElem;·rw[UO,zi2];simp
 ·intro j b d;simp only[Jl,List.getElem_map,List.getElem_range,Za,c,List.getElem?_eq_getElem,Option.map_some,Option.getD_some];rw[List.getD_eq_getElem?_getD,List.getElem?_eq_getElem b];rfl
structure Km(W:World)(xb N:Nat)(rbs:List Nat)(M:Mat)(wr:World):Prop where
 kp:Kp xb W.heap.size W wr
 rows:wr.heap[xb]?=some (Jn rbs N)
 row:∀i (h:i<rbs.length),wr.heap[rbs[i]]?=some (zH (Jl N (M i)))
 nodup:rbs.Nodup
 new:∀b∈rbs,W.heap.size<=b
theorem zi5{w:World}{c b:Nat}{a:List Nat}(h:w.heap[c]?=S (Jn a b))(d:a.length<b):w.cell? ⟨c,a.length,N⟩=S (.slice N 0 0):=by
 rw[z8 h];have:0<b-a.length:=by omega
 simp[this]
theorem zi6(c:List Nat)(a b:Nat)(d:c.length<a):Obj.cells ((c.map (Jm · a)++List.replicate (a-c.length) (Value.slice N 0 0)).toArray.setIfInBounds c.length (Jm b a)) 74 (0,0)=Jn (c++[b]) a:=by unfold Jn;congr 1;apply Array.toList_inj.1;simp only[Array.toList_setIfInBounds];rw[List.set_append_right _ _ (by simp)];simp only[List.length_map,Nat.sub_self,List.map_append,List.map_cons,List.map_nil,List.append_assoc,List.length_append,List.length_cons,List.length_nil];congr 1;rw[show a-c.length=(a-(c.length+1))+1 from by omega,List.replicate_succ];simp
theorem Ji(w:World)(o:Obj)(b:Nat)(a:b=w.heap.size):(w.alloc o).heap[b]?=S o:=by rw[a];exact zk _ _
theorem zQ.blocks{w c:World}{b a:Nat}{d:List z7}{E:List Bool}(h:zQ w b a d E)(e:c.heap[b]?=w.heap[b]?)(f:c.heap[a]?=w.heap[a]?):zQ c b a d E:=⟨h.map.same e,by rw[f];exact h.emp,h.len,h.pos,h.le⟩
theorem Km.next{W:World}{d N:Nat}{e:List Nat}{M:Mat}{wr X n:World}(h:Km W d N e M wr)(w:d<W.heap.size)(l:Kp d wr.heap.size wr X)(u:wr.heap.size+1<X.heap.size)(r:X.heap[d]?=S (Jn (e++[wr.heap.size+1]) N))(g:Kp (wr.heap.size+1) X.drew.heap.size X.drew n)(t:n.heap[wr.heap.size+1]?=S (zH (Jl N (M e.length)))):Km W d N (e++[wr.heap.size+1]) M n:=by
 have v:=h.kp.size;have p:∀b∈e,b<wr.heap.size:=by intro b c;obtain⟨i,m,rfl⟩:=List.getElem_of_mem c;exact zd (h.row i m)
 have o:∀k,k<wr.heap.size->k≠d->n.heap[k]?=wr.heap[k]?:=by intro k f j;rw[g.block k (by show k<X.heap.size;omega) (by omega)];exact l.block k f j
 refine⟨?_,?_,?_,?_,?_⟩;·refine h.kp.trans ⟨g.os.trans l.os,g.tape.trans l.tape,g.output.trans l.output,Nat.le_trans l.size g.size,λk f j=>o k (by omega) j⟩
 ·rw[g.block d (by show d<X.heap.size;omega) (by omega)];exact r
 ·intro i m;rw[List.length_append]at m;by_cases f:i<e.length;·rw[List.getElem_append_left f];have q:=List.getElem_mem f;rw[o _ (p _ q) (by have:=h.new _ q;omega)];exact h.row i f
  ·have j:i=e.length:=by simp at m;omega
   subst j;simp;exact t
 ·rw[List.nodup_append];refine⟨h.nodup,by simp,?_⟩;intro a s b c;simp at c;have:=p a s;omega
 ·intro b c;rcases List.mem_append.1 c with c|c;·exact h.new b c
  ·simp at c;omega
theorem zej(w:World)(q p:Nat)(d:List z7)(E:List Bool)(A:Nat->Prop)(g:List ze)(K:Addr)(L:Nat)(hF:zQ w q p d E)(hG:Zj w A g (.slice (S K) g.length L))(hA:∀b,A b->b<w.heap.size)(al:g.length=d.length):Calls P 92 #[zI q p d.length,.slice (S K) g.length L] w λe U=>Below w.heap.size w U/\∃o,e=.returned (JP 8 o)/\(match o with|none=>∀i,i<g.length->Wm (Za d E g) g.length i i=false|some i=>i<g.length/\Wm (Za d E g) g.length i i=true/\∀t,t<i->Wm (Za d E g) g.length t t=false):=by
 have aP:=hF.le;have aT:=hF.pos;have a1:g.length<=20:=by omega
 obtain⟨W,F⟩:∃W,W=(w.alloc (ZB q p d.length)).alloc (Jn [] g.length):=⟨_,rfl⟩;have M:Below w.heap.size w W:=by rw[F];exact(zc _ _).alloc (by simp) _
 have aK:W.heap.size=w.heap.size+2:=by rw[F];simp
 have aD:W.heap[w.heap.size]?=S (ZB q p d.length):=by rw[F,zm _ _ (by simp)];exact zk _ _
 have ar:W.heap[w.heap.size+1]?=S (Jn [] g.length):=by rw[F,show w.heap.size+1=(w.alloc (ZB q p d.length)).heap.size from by simp];exact zk _ _
 have HF:Hid (zQ W q p d E):=hF.below M;have HG:Hid (Zj W A g (.slice (S K) g.length L)):=hG.kept (ZF M);have H:Hid (∀b,A b->b<w.heap.size):=hA;have au:Hid (Below w.heap.size w W):=M;have a5:Hid (g.length=d.length):=al;have HX:Hid (W.heap[w.heap.size+1]?=S (Jn [] g.length)):=ar;have aE:=zgt g.length a1;have ao:=zbM g.length a1;have aM:p<w.heap.size:=zd hF.emp;have aS:q<w.heap.size:=hF.map.lt;clear hF hG M hA al ar;simp only[zI];go_enter func92,ntmps92;go_wp2_with fail;rw[<-F];clear aE;go_loopg[14] g.length (λm i wr=>∃(j:Nat) (f:List Nat),m=g.length-j/\f.length=j/\j<=g.length/\i=I J j/\Km W (w.heap.size+1) g.length f (Za d E g) wr);case atStart=>exact⟨0,[],rfl,rfl,Nat.zero_le _,rfl,Kp.refl _ _ _,HX.out,by simp,List.nodup_nil,by simp⟩
 case round=>
  obtain⟨j,f,rfl,y,hj,rfl,R⟩:=hrel;have n:Hid (Km W (w.heap.size+1) g.length f (Za d E g) wr):=R;have s:Hid (f.length=j):=y;have aG:=R.kp.size;have ai:wr.heap[w.heap.size]?=S (ZB q p d.length):=by rw[R.kp.block _ (by omega) (by omega)];exact aD
  have ah:=z8 ai;clear R ai y;by_cases a2:j<g.length
  ·have aC:Sm A W wr:=by refine⟨λu l x=>Z6 x (λb r=>n.out.kp.block b (x.lt b r).2 ?_),λb r ha=>n.out.kp.block b r (by have:=H.out b ha;omega)⟩;intro e;subst e;obtain⟨aA,h⟩:=Zr x r;rw[HX.out]at h;simp[Jn]at h
   have aa:Zj wr A g (.slice (S K) g.length L):=HG.out.kept aC;obtain⟨gb,a,c,rfl,aN,aB,c0,c1,a8,aF⟩:=aa.at j a2;have aQ:(j:Int)<g.length:=by omega
   have aH:wr.cell? ⟨w.heap.size+1,j,N⟩=S (.slice N 0 0):=by have:=zi5 n.out.rows (by rw[s.out];exact a2);rw[s.out]at this;exact this
   have aI:=zi n.out.rows j;have aO:=H.out gb aB;have aV:w.heap.size<wr.heap.size:=by omega
   have aU:w.heap.size+1<wr.heap.size:=by omega
   clear aa aF;go_wp2_with fail;obtain⟨X,v⟩:∃X,X=(((wr.setCell ⟨w.heap.size+1,j,N⟩ (.slice (S ⟨wr.heap.size+1,0,N⟩) g.length g.length)).alloc (.cells #[.string ⟨List.toArray g[j].name⟩,.slice a g[j].choice.length c] 142)).alloc (zH (List.replicate g.length false))):=⟨_,rfl⟩;have aL:X.heap.size=wr.heap.size+2:=by rw[v];simp
   have B:Kp (w.heap.size+1) wr.heap.size wr X:=by rw[v];exact(((Kp.refl _ _ _).setRb _ _).alloc (by simp) _).alloc (by simp) _
   have O:Kp (w.heap.size+1) W.heap.size W X:=n.out.kp.trans (B.mono aG);have ag:X.heap[wr.heap.size+1]?=S (zH (List.replicate g.length false)):=by rw[v];exact Ji _ _ _ (by simp)
   have Z:X.heap[w.heap.size+1]?=S (Jn (f++[wr.heap.size+1]) g.length):=by rw[v,zm _ _ (by simp;omega),zm _ _ (by simp;omega)];have h:=s.out;have h2:=zi6 f g.length (wr.heap.size+1) (by omega);rw[zo (cs:=(f.map (Jm · g.length)++List.replicate (g.length-f.length) (Value.slice N 0 0)).toArray) n.out.rows, <-h2,h];rfl
   have a9:zQ X.drew q p d E:=HF.out.blocks (O.block q (by omega) (by omega)) (O.block p (by omega) (by omega));have af:Sm A wr X.drew:=⟨λu l x=>Z6 x (λb r=>B.block b (x.lt b r).2 (by intro e;subst e;obtain⟨aA,h⟩:=Zr x r;rw[n.out.rows]at h;simp[Jn]at h)),λb r ha=>B.block b r (by have:=H.out b ha;omega)⟩
   have a0:=zgx (Qt g[j].choice) X.drew q p (wr.heap.size+1) d E (List.replicate d.length false) A g[j].choice (.slice a g[j].choice.length c) a9 (by rw[<-a5.out];exact ag) (by simp) (by omega) (a8.kept af) (λb r=>by have:=H.out b r;omega) (Nat.le_refl _);rw[zi4 d E g j a2]at a0;have aj:Calls P 131 #[.agg #[.map (S q),.slice (S ⟨p,0,N⟩) d.length d.length],.slice a g[j].choice.length c,.slice (S ⟨wr.heap.size+1,0,N⟩) g.length g.length] X.drew λe U=>e=.returned (.tuple #[])/\Kp (wr.heap.size+1) X.drew.heap.size X.drew U/\U.heap[wr.heap.size+1]?=S (zH (Jl g.length (Za d E g j))):=by have h:=a0;simp only[zI,Jm]at h;rw[a5.out];exact h
   have q0:∀o,X.cell? ⟨w.heap.size,o,N⟩=(#[.map (S q),.slice (S ⟨p,0,N⟩) d.length d.length]:Array Value)[o]?:=λo=>by rw[JS B (by omega) (by omega)];exact ah o
   have q1:X.cell? ⟨wr.heap.size,1,N⟩=S (.slice a g[j].choice.length c):=by rw[v,World.cell?_alloc_lt _ _ _ (by simp)];rw[z8 (Ji _ _ _ (by simp))];rfl
   have q2:X.cell? ⟨w.heap.size+1,j,N⟩=S (.slice (S ⟨wr.heap.size+1,0,N⟩) g.length g.length):=by rw[z8 Z];have:=s.out;simp[Jm, <-this]
   have aJ:Hid (Kp (w.heap.size+1) W.heap.size W X):=O;have av:Hid (Kp (w.heap.size+1) wr.heap.size wr X):=B;have az:Hid (X.heap[w.heap.size+1]?=S (Jn (f++[wr.heap.size+1]) g.length)):=Z;rw[<-v];clear v B O ag Z a9 af a0 a8 c0 c1 aH aI ah ao;go_region_with(go_at_call 131;refine aj.mono ?_;rintro e w5⟨rfl,an,ak⟩);all_goals
    have hN:=n.out.next (by omega) av.out (by omega) az.out an (by rw[s.out];exact ak);have ae:(f++[wr.heap.size+1]).length=j+1:=by have:=s.out;simp;omega
    have ax:Hid (Km W (w.heap.size+1) g.length (f++[wr.heap.size+1]) (Za d E g) w5):=hN;have aw:Hid ((f++[wr.heap.size+1]).length=j+1):=ae;clear hN ae an ak aj;go_wp2_with fail;go_roundg (g.length-(j+1));case measure=>omega
    case rel=>exact⟨j+1,_,rfl,aw.out,by omega,by go_num,ax.out⟩
  ·have am:j=g.length:=by omega
   have y:f.length=g.length:=by rw[s.out];exact am
   have ad:ZD wr (w.heap.size+1) g.length f (Za d E g):=by refine⟨?_,y,n.out.row,n.out.nodup⟩;rw[n.out.rows];unfold Jn;rw[y];simp
   have ap:=ziV wr (w.heap.size+1) g.length f (Za d E g) ad a1;have ay:Hid (f.length=g.length):=y;clear am y ad ao;go_wp2_with fail;refine ap.mono ?_;rintro e V⟨rfl,ab,z⟩;have a6:Hid (ZD V (w.heap.size+1) g.length f (Wm (Za d E g) g.length)):=ab;have a7:Below w.heap.size w V:=by have h:Kp (w.heap.size+1) w.heap.size w wr:=(Kp.of au.out).trans (n.out.kp.mono (by omega));refine⟨z.os.trans h.os,z.tape.trans h.tape,z.output.trans h.output,Nat.le_trans h.size z.size,λk hk=> ?_⟩;rw[z.block k (by omega) (λhm=>by have:=n.out.new k hm;omega)];exact h.block k hk (by omega)
   have a4:Hid (Below w.heap.size w V):=a7;clear ap ab z a7;go_wp2_with fail;go_loopg[38] g.length (λm i wx=>∃j:Nat,m=g.length-j/\j<=g.length/\i=I J j/\wx=V/\Hid (∀t,t<j->Wm (Za d E g) g.length t t=false));case atStart=>exact⟨0,rfl,Nat.zero_le _,rfl,rfl,λt ht=>by omega⟩
   case round=>
    obtain⟨t,rfl,ht,rfl,rfl,G⟩:=hrel;by_cases a3:t<g.length
    ·have aq:t<f.length:=by rw[ay.out];exact a3
     have d1:=a6.out.cell t aq;have d2:=a6.out.at t t aq a3;have aR:(t:Int)<g.length:=by omega
     generalize f[t]=bt at *;cases D:Wm (Za d E g) g.length t t with
     |true=>rw[D]at d2;have HV:Hid (Wm (Za d E g) g.length t t=true):=D;clear D;go_wp2_with fail;go_ret;exact⟨a4.out,S t,rfl,a3,HV.out,G.out⟩
     |false=>
      rw[D]at d2;have Y:Hid (∀i,i<t+1->Wm (Za d E g) g.length i i=false):=by
       intro i hi;by_cases e:i=t;·subst e;exact D
       ·exact G.out i (by omega)
      clear D G;go_wp2_with fail;go_roundg (g.length-(t+1));case measure=>omega
      case rel=>exact⟨t+1,rfl,by omega,by go_num,rfl,Y⟩
    ·have Y:Hid (∀i,i<g.length->Wm (Za d E g) g.length i i=false):=λi hi=>G.out i (by omega);clear G;go_wp2_with fail;go_ret;exact⟨a4.out,N,rfl,Y.out⟩
end
section
open Go.RowKit Go.WideMaps Go.Maps
def Ks(a:List z7)(E:List Bool)(g:List ze):Option Nat->Prop
 |none=>∀i,i<g.length->Wm (Za a E g) g.length i i=false
 |some i=>i<g.length/\Wm (Za a E g) g.length i i=true/\∀t,t<i->Wm (Za a E g) g.length t t=false
inductive Qh(g:List ze):Except (Nat×Nat) (List Bool)->Prop
 |twice {i}:JG (zg g) (some i)->Qh g (.error (5,i))
 |unknown {i}:JG (zg g) none->Qp g (zx (zv (zg g))) (some i)->Qh g (.error (6,i))
 |loop {E i}:JG (zg g) none->Qp g (zx (zv (zg g))) none->E.length=g.length->QP (zg g) g E->QQ (zg g) g E->Qp g (zx (zJ (Eb (zg g) E))) (some i)->Qh g (.error (7,i))
 |left {E i}:JG (zg g) none->Qp g (zx (zv (zg g))) none->E.length=g.length->QP (zg g) g E->QQ (zg g) g E->Qp g (zx (zJ (Eb (zg g) E))) none->Ks (zg g) E g (some i)->Qh g (.error (8,i))
 |ok {E}:JG (zg g) none->Qp g (zx (zv (zg g))) none->E.length=g.length->QP (zg g) g E->QQ (zg g) g E->Qp g (zx (zJ (Eb (zg g) E))) none->Ks (zg g) E g none->Qh g (.ok E)
abbrev K3:Value:=.agg #[.map N,.slice N 0 0]
abbrev JY:Obj:=.cells #[.map N,.slice N 0 0] 76
def zdv(g:List ze)(w:World)(e:Ending)(d:World):Prop:=∃c,Qh g c/\Below w.heap.size w d/\match c with| .ok E=>∃b a,e=.returned (.tuple #[zI b a g.length,.nilIface])/\zQ d b a (zg g) E| .error (f,p)=>e=.returned (.tuple #[K3,zS f p])
theorem Q8(g:List ze):(zg g).length=g.length:=by simp[zg]
theorem Zd.empty{w:World}{a:Nat}(h:w.heap[a]?=S (.map #[] 0)):Zd w a []:=by refine⟨.map [],⟨#[],0,h,⟨by simp,Go.MapKept.stamped_empty 0,by simp⟩,Nat.le_refl _,rfl⟩,?_⟩;intro b;exact⟨rfl,rfl⟩
structure JI(w:World)(g:List ze)(A':Nat->Prop)(ga:Addr)(gc:Nat)(wk:World):Prop where
 below:Below w.heap.size w wk
 res:wk.heap[w.heap.size]?=some JY
 var:wk.heap[w.heap.size+3]?=some (ZB (w.heap.size+1) (w.heap.size+2) g.length)
 gram:Zj wk A' g (.slice (some ga) g.length gc)
 size:w.heap.size+4<=wk.heap.size
theorem JI.step{w:World}{g:List ze}{c:Nat->Prop}{d:Addr}{e:Nat}{b f:World}(h:JI w g c d e b)(a:Below b.heap.size b f):JI w g c d e f:=by have k:=h.size;have i:=h.below.size;have j:=a.size;exact⟨h.below.trans (a.mono i),by rw[a.block _ (by omega)];exact h.res,by rw[a.block _ (by omega)];exact h.var,h.gram.kept (ZF a),by omega⟩
theorem JI.stepB{w:World}{g:List ze}{d:Nat->Prop}{e:Addr}{f:Nat}{c i:World}{E:List Bool}(h:JI w g d e f c)(a:Kp (w.heap.size+2) c.heap.size c i)(m:c.heap[w.heap.size+2]?=S (zH E))(j:∀b,d b->b<w.heap.size):JI w g d e f i:=by
 have q:=h.size;have n:=h.below.size;have o:=a.size;refine⟨h.below.trans ⟨a.os,a.tape,a.output,a.size,λk p=>a.block k (by omega) (by omega)⟩,?_,?_,?_,by omega⟩;·rw[a.block _ (by omega) (by omega)];exact h.res
 ·rw[a.block _ (by omega) (by omega)];exact h.var
 ·exact h.gram.kept (zas m a (λb l=>by have:=j b l;omega))
theorem zfY(w:World)(A:Nat->Prop)(g:List ze)(c:Addr)(d:Nat)(hG:Zj w A g (.slice (S c) g.length d))(x:g.length<=20)(ay:g≠[]):Calls P 62 #[.slice (S c) g.length d] w λe w'=>zdv g w e w':=by
 obtain⟨V,j⟩:∃V,V=(((w.alloc JY).alloc (.map #[] 0)).alloc (zH (List.replicate g.length false))).alloc (ZB (w.heap.size+1) (w.heap.size+2) g.length):=⟨_,rfl⟩;have aH:V.heap.size=w.heap.size+4:=by rw[j];simp
 have a2:Below w.heap.size w V:=by rw[j];exact(((zc _ _).alloc (by simp) _).alloc (by simp;omega) _).alloc (by simp;omega) _
 have ak:V.heap[w.heap.size]?=S JY:=by rw[j,zm _ _ (by simp;omega),zm _ _ (by simp;omega),zm _ _ (by simp)];exact zk _ _
 have aj:V.heap[w.heap.size+1]?=S (.map #[] 0):=by rw[j,zm _ _ (by simp),zm _ _ (by simp)];exact Ji _ _ _ (by simp)
 have ah:V.heap[w.heap.size+2]?=S (zH (List.replicate g.length false)):=by rw[j,zm _ _ (by simp)];exact Ji _ _ _ (by simp)
 have ai:V.heap[w.heap.size+3]?=S (ZB (w.heap.size+1) (w.heap.size+2) g.length):=by rw[j];exact Ji _ _ _ (by simp)
 have az:0<g.length:=by cases g with|nil=>exact absurd rfl ay|cons _ _=>simp
 obtain⟨a,D⟩:∃a:Nat->Prop,a= λb=>A b/\b<w.heap.size:=⟨_,rfl⟩;have hA1:∀b,a b->b<w.heap.size:=λb f=>by rw[D]at f;exact f.2
 have a4:Zj V a g (.slice (S c) g.length d):=by
  have m:Zj w a g (.slice (S c) g.length d):=by obtain⟨vs,hr,aF⟩:=hG;exact⟨vs,hr.mono (λb m h2=>by rw[D];exact⟨h2,m⟩),zW.mono (λb m h2=>by rw[D];exact⟨h2,m⟩) aF⟩
  exact m.kept (ZF a2)
 have z:Hid (∀b,a b->b<w.heap.size):=hA1;have aa:Hid (Zj V a g (.slice (S c) g.length d)):=a4;have a7:Hid (Below w.heap.size w V):=a2;have ad:Hid (V.heap[w.heap.size+2]?=S (zH (List.replicate g.length false))):=ah;have af:Hid (V.heap[w.heap.size]?=S JY):=ak;have ae:Hid (V.heap[w.heap.size+3]?=S (ZB (w.heap.size+1) (w.heap.size+2) g.length)):=ai;have a6:=zgW V (w.heap.size+1) (w.heap.size+2) g.length a g c d (Zd.empty aj) a4 (λb f=>by have:=hA1 b f;omega) x;have aD:=zbM g.length x;have aE:=@run_makeMap P;have aJ:∀(fn:Fn) (first ag:Array Value) (w:World),(Instr.makeFunc fn first ag).run P w=.ok (.func fn first ag) w:=λ_ _ _ _=>rfl;simp only[zI]at a6;clear hG a4 hA1 D a2 aj ah ak ai;go_enter func62,ntmps62;go_wp2_with fail;rw[<-j];refine a6.mono ?_;rintro e n⟨h,o,ap,rfl,y⟩;have aK:=h.size;have q:JI w g a c d n:=by
  refine⟨a7.out.trans ⟨h.os,h.tape,h.output,h.size,λk hk=>h.block k (by omega) (by omega)⟩,?_,?_,?_,by omega⟩;·rw[h.block _ (by omega) (by omega)];exact af.out
  ·rw[h.block _ (by omega) (by omega)];exact ae.out
  ·refine aa.out.kept ⟨λu l hl=>Z6 hl (λb f=>h.block b (hl.lt b f).2 ?_),λb f ha=>h.block b f (by have:=z.out b ha;omega)⟩;intro e;subst e;obtain⟨aG,m⟩:=Zr hl f;have:V.heap[w.heap.size+1]?=S (.map #[] 0):=by rw[j,zm _ _ (by simp),zm _ _ (by simp)];exact Ji _ _ _ (by simp)
   rw[this]at m;cases m
 have am:n.heap[w.heap.size+2]?=S (zH (List.replicate g.length false)):=by rw[h.block _ (by omega) (by omega)];exact ad.out
 have L1:Hid (JI w g a c d n):=q;have q1:=z8 q.res;have f1:=zi q.res;have v1:=z8 q.var;have aA:w.heap.size<n.heap.size:=by omega
 have p:Hid (JG (zg g) o):=ap;clear a6 h ap q aD aE a7 ad af ae aa j;cases o with
 |some i=>simp only[JP,zS];clear y;go_wp2_with fail;refine bodyPost_ret (v:=.tuple #[K3,zS 5 i]) (by simp[results,results62,go_sem,zS,q1,aA]) rfl ?_;exact⟨.error (5,i),.twice p.out,(L1.out.below.setCell (Nat.le_refl _) _).setCell (Nat.le_refl _) _,rfl⟩
 |none=>
  have y:=y rfl;have a3:zQ n (w.heap.size+1) (w.heap.size+2) (zg g) (List.replicate g.length false):=⟨y,am,by simp[Q8],by rw[Q8];exact az,by rw[Q8];exact x⟩;have R:=zeY n (w.heap.size+1) (w.heap.size+2) (zg g) (List.replicate g.length false) a g c d 6 a3 L1.out.gram x;rw[Q8]at R;have av:Hid (zQ n (w.heap.size+1) (w.heap.size+2) (zg g) (List.replicate g.length false)):=a3;simp only[zI]at R;clear y a3 am;simp only[JP];go_wp2_with fail;refine R.mono ?_;rintro e U⟨J,o2,an,rfl⟩;have r:=L1.out.step J;have aL:=J.size;have L2:Hid (JI w g a c d U):=r;have q2:=z8 r.res;have f2:=zi r.res;have v2:=z8 r.var;have aB:w.heap.size<U.heap.size:=by omega
  have B:Hid (Qp g (zx (zv (zg g))) o2):=an;have a8:Hid (zQ U (w.heap.size+1) (w.heap.size+2) (zg g) (List.replicate g.length false)):=av.out.below J;clear R J an r q1 f1 v1;cases o2 with
  |some i=>simp only[JP,zS];go_wp2_with fail;refine bodyPost_ret (v:=.tuple #[K3,zS 6 i]) (by simp[results,results62,go_sem,zS,q2,aB]) rfl ?_;exact⟨.error (6,i),.unknown p.out B.out,(L2.out.below.setCell (Nat.le_refl _) _).setCell (Nat.le_refl _) _,rfl⟩
  |none=>
   have N:=zeU U (w.heap.size+1) (w.heap.size+2) (zg g) (List.replicate g.length false) a g c d a8.out L2.out.gram (λb f=>by have:=z.out b f;omega) (Q8 g).symm (λF _ i hi=>by simp[List.getD_eq_getElem?_getD,List.getElem?_replicate]at hi;split at hi<;>simp_all);rw[Q8]at N;simp only[zI]at N;simp only[JP];go_wp2_with fail;refine N.mono ?_;rintro e W⟨rfl,a5,E,G,al,aq⟩;have H:=L2.out.stepB a5 a8.out.emp z.out;have aM:=a5.size;have L3:Hid (JI w g a c d W):=H;have v3:=z8 H.var;have aI:w.heap.size<W.heap.size:=by omega
   have Y:Hid (QP (zg g) g E):=al;have a1:Hid (QQ (zg g) g E):=aq;have Z:Hid (E.length=g.length):=by show _=_;rw[G.len,Q8]
   have O:=zeW W (w.heap.size+1) (w.heap.size+2) (zg g) E a g c d 7 G H.gram x;rw[Q8]at O;simp only[zI]at O;have aw:Hid (zQ W (w.heap.size+1) (w.heap.size+2) (zg g) E):=G;clear N a5 G al aq H q2 f2 v2;go_wp2_with fail;refine O.mono ?_;rintro e X⟨K,o4,ao,rfl⟩;have s:=L3.out.step K;have aN:=K.size;have L4:Hid (JI w g a c d X):=s;have q4:=z8 s.res;have f4:=zi s.res;have v4:=z8 s.var;have aC:w.heap.size<X.heap.size:=by omega
   have a0:Hid (Qp g (zx (zJ (Eb (zg g) E))) o4):=ao;have a9:Hid (zQ X (w.heap.size+1) (w.heap.size+2) (zg g) E):=aw.out.below K;clear O K ao s v3;cases o4 with
   |some i=>simp only[JP,zS];go_wp2_with fail;refine bodyPost_ret (v:=.tuple #[K3,zS 7 i]) (by simp[results,results62,go_sem,zS,q4,aC]) rfl ?_;exact⟨.error (7,i),.loop p.out B.out Z.out Y.out a1.out a0.out,(L4.out.below.setCell (Nat.le_refl _) _).setCell (Nat.le_refl _) _,rfl⟩
   |none=>
    have M:=zej X (w.heap.size+1) (w.heap.size+2) (zg g) E a g c d a9.out L4.out.gram (λb f=>by have:=z.out b f;omega) (Q8 g).symm;rw[Q8]at M;simp only[zI]at M;simp only[JP];go_wp2_with fail;refine M.mono ?_;rintro e w5⟨L,o5,rfl,ar⟩;have t:=L4.out.step L;have aO:=L.size;have L5:Hid (JI w g a c d w5):=t;have q5:=z8 t.res;have f5:=zi t.res;have v5:=z8 t.var;have au:w.heap.size<w5.heap.size:=by omega
    have ab:Hid (Ks (zg g) E g o5):=by cases o5<;>exact ar
    have ax:Hid (zQ w5 (w.heap.size+1) (w.heap.size+2) (zg g) E):=a9.out.below L;clear M L ar t q4 f4 v4;cases o5 with
    |some i=>simp only[JP,zS];go_wp2_with fail;refine bodyPost_ret (v:=.tuple #[K3,zS 8 i]) (by simp[results,results62,go_sem,zS,q5,au]) rfl ?_;exact⟨.error (8,i),.left p.out B.out Z.out Y.out a1.out a0.out ab.out,(L5.out.below.setCell (Nat.le_refl _) _).setCell (Nat.le_refl _) _,rfl⟩|none=>simp only[JP];go_wp2_with fail;refine bodyPost_ret (v:=.tuple #[zI (w.heap.size+1) (w.heap.size+2) g.length,.nilIface]) (by simp[results,results62,go_sem,zI,q5,au]) rfl ?_;refine⟨.ok E,.ok p.out B.out Z.out Y.out a1.out a0.out ab.out,(L5.out.below.setCell (Nat.le_refl _) _).setCell (Nat.le_refl _) _,_,_,rfl,?_⟩;exact ax.out.blocks (by rw[Below.heap_setCell _ _ _ _ (by simp only[];omega),Below.heap_setCell _ _ _ _ (by simp only[];omega)]) (by rw[Below.heap_setCell _ _ _ _ (by simp only[];omega),Below.heap_setCell _ _ _ _ (by simp only[];omega)])
end
end Go.Proofs.YtiganlkabilblaaGreatDoor
