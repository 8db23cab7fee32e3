import Derived.Test.YtiganlkabilblaaGreatDoorV11
set_option linter.all false
set_option maxHeartbeats 64000000
set_option maxRecDepth 100000
namespace Go.Proofs.YtiganlkabilblaaGreatDoor
open Tryz
open Tryz renaming prog->P
open Option renaming some->S,none->N
open Value renaming int->I
open IntKind renaming i64->J
section
open Go.RowKit
attribute [local go_sem ↓] Go.wp_at_zero Go.wp_at_succ
theorem z6{p:Prop}(h:p):Hid p:=h
theorem zhp(w:World)(B i:Nat)(M:MV)(L:Nat->Nat)(h:Mem w B i M L (· =0))(q:List (OP×Value×Value))(v:OP×Value×Value)(X:M.os=q++[v])(f:List Nat)(k:Nat)(ht:v.1.terms=f++[k])(V:k<M.xs.length)(ak:M.xs[k].1.kind≠10/\M.xs[k].1.kind≠11)(s:z7)(aK:YW s)(aQ:M.xs.length<=90000)(aR:f.length<=90000)(aS:q.length<=90000):Calls P 142 #[.pointer (S ⟨i,0,N⟩),.string ⟨s.toArray⟩] w λe' D=>QS w B i (M.st.behind s) (.tuple #[]) e' D:=by
 have a2:=ak;obtain⟨l,oc,A,aT,a6,aJ,q0,O,q2,qf⟩:=h.topAt X;have c2:w.cell? ⟨i,2,N⟩=S M.vo:=z8 h.blk 2;have c4:w.cell? ⟨i,4,N⟩=S (.bool M.may):=z8 h.blk 4;have f4:w.frozen? ⟨i,4,N⟩=false:=zi h.blk 4;rw[A]at c2;obtain⟨h1,h2,h3,h4⟩:=(h.topCells X A).2.2.2.2.2.2;have n:=h3;unfold Ints at n;rw[ht]at n;obtain⟨d,tc,Z,_,K⟩:=n.form (by simp);rw[Z]at n O;have ck:w.cell? ⟨d,f.length,N⟩=S (I J k):=by rw[n.cellAt _ (by simp)];simp[Zq]
 obtain⟨y,E,u,aY,aq,⟨b1,aZ⟩,ap,ao⟩:=h.exAt (by omega);obtain⟨x0,x1,x2,x3,x4⟩:=ao k V;have c0:w.cell? ⟨i,0,N⟩=S M.vx:=z8 h.blk 0;rw[u]at c0;have a7:=(h.parts M.xs[k] (List.getElem_mem V)).1;have a5:=h.items M.xs[k] (List.getElem_mem V);obtain⟨ia,ic,a8⟩:=zl a5;obtain⟨pa,pc,a9⟩:=zl a7;obtain⟨x,aa⟩:∃x,x=M.xs[k]:=⟨_,rfl⟩;rw[<-aa]at x0 x1 x2 x3 x4 a7 a5 a8 a9 a2;rw[a8]at x1;rw[a9]at x4;simp only[List.length_append,List.length_singleton]at O Z K n;have Y:=h.lt;have aU:=h.ge;have hL:(q.length:Int)<(q.length:Int)+1:=by omega
 have hT:(f.length:Int)<(f.length:Int)+1:=by omega
 have hK:(k:Int)<(M.xs.length:Int):=by omega
 have H:Hid (Mem w B i M L (· =0)):=h;have HO:Hid (M.os=q++[v]):=X;have HV:Hid (M.vo=.slice (S ⟨l,0,N⟩) (q.length+1) oc):=A;have ab:Hid (v.1.terms=f++[k]):=ht;have aC:Hid (v.2.2=.slice (S ⟨d,0,N⟩) (f.length+1) tc):=Z;have HX:Hid (M.vx=.slice (S ⟨y,0,N⟩) M.xs.length E):=u;have aD:Hid (x=M.xs[k]):=aa;have aN:((x.1.kind:Int)==10)=false:=beq_eq_false_iff_ne.2 (by omega);have aO:((x.1.kind:Int)==11)=false:=beq_eq_false_iff_ne.2 (by omega);have al:=λw=>zan s aK w;have ag:=λ(W:World) (aP:Nat->Nat) (hM:Mem W B i M aP (· =0)) (pa:Option Addr) (pl pc:Nat)=>YG W B i (S ⟨y,0,N⟩) E M.xs.length M.vr M.vo M.sign M.may (M.xs.flatMap exC) (zE s) N 0 0 ⟨#[]⟩ 0 pa pl pc (by rw[<-u];exact hM.blk) (by rw[<-u];exact hM.ex) (by omega) hM.ge;have am:S l≠(Value.slice (S ⟨y,0,N⟩) M.xs.length E).ownBlock:=λj=>Ki h.ex h.op (by decide) (b:=l) (by rw[A];rfl) (by rw[u];exact j.symm);have an:S d≠(Value.slice (S ⟨y,0,N⟩) M.xs.length E).ownBlock:=λj=>Ki h.ex n (by decide) (b:=d) rfl (by rw[u];exact j.symm);have aI:l≠d:=λj=>Ki n h.op (by decide) (b:=l) (by rw[A];rfl) (by rw[j];rfl);have aV:d≠l:=λj=>aI j.symm;have aM:d≠i:=λj=>zn n h.blk (by decide) (by rw[<-j];rfl);have a1:Hid (w.frozen? ⟨d,f.length,N⟩=false):=n.frozenAt _;have av:Hid (x.1.kind≠10/\x.1.kind≠11):=a2;clear h X A ht Z u aa a7 a5 a8 a9 h1 h2 h3 n h4 ao ak q0 q2;go_enter func142,ntmps142;go_wp2_with fail;go_quiet(fail);go_wp2_with fail;go_quiet(fail);generalize p:(w.drewN _).drewN _=W;have ai:∀t,w.cell? t=W.cell? t:=λt=>by rw[<-p];rfl
 have aj:∀t,w.frozen? t=W.frozen? t:=λt=>by rw[<-p];rfl
 have G:W.heap=w.heap:=by rw[<-p];rfl
 simp only[ai]at c0 c2 c4 O ck x0 x1 x2 x3 x4;simp only[aj]at f4 qf ap a1;have HW:Hid (Mem W B i M L (· =0)):=by rw[<-p];exact(H.out.drewN _).drewN _
 have ax:Hid (KT B w W):=by rw[<-p];exact((KT.refl B w).drewN _).drewN _
 have a6:l<W.heap.size:=by rw[G];exact a6
 have K:d<W.heap.size:=by rw[G];exact K
 have aq:y<W.heap.size:=by rw[G];exact aq
 have Y:i<W.heap.size:=by rw[G];exact Y
 clear p ai aj G H;go_wp2_with fail;generalize p:W.alloc (.cells #[I J x.1.kind,.slice ia x.1.items.length ic,.string ⟨x.1.text.toArray⟩,I J x.1.rule,.slice pa x.1.parts.length pc] 149)=c;have U:Below W.heap.size W c:=by rw[<-p];exact zc _ _
 have aL:c.heap.size=W.heap.size+1:=by rw[<-p];simp
 have af:=HW.out.below (lab':=L) U (λ_ _=>rfl);have ae:KT B W c:=by rw[<-p];exact KT.alloc B W (by omega) _
 have R:∀r o,r<W.heap.size->c.cell? ⟨r,o,N⟩=W.cell? ⟨r,o,N⟩:=(Y3 U).1;have cf:∀r o,r<W.heap.size->c.frozen? ⟨r,o,N⟩=W.frozen? ⟨r,o,N⟩:=(Y3 U).2;have d1:c.cell? ⟨l,q.length *3+1,N⟩=S (.slice (S ⟨d,0,N⟩) (f.length+1) tc):=(R _ _ a6).trans O;have d2:c.cell? ⟨d,f.length,N⟩=S (I J k):=(R _ _ K).trans ck;have d3:c.cell? ⟨i,4,N⟩=S (.bool M.may):=(R _ _ Y).trans c4;have d4:c.frozen? ⟨i,4,N⟩=false:=(cf _ _ Y).trans f4;have d5:c.frozen? ⟨d,f.length,N⟩=false:=(cf _ _ K).trans a1.out;have a4:=(af.below (lab':=upd L c.heap.size 0) (w':=c.alloc (.cells #[I J k] 3)) (zc _ _) (λg hg=>by unfold upd;rw[if_neg (by omega)])).drew;have ah:=ag _ _ a4 (S ⟨c.heap.size,0,N⟩) 1 1;have ay:=z6 a4;have ar:=z6 ah;have aw:Hid (∀w,Calls P 143 #[.string ⟨s.toArray⟩] w λe D=>e=.returned (I J (zE s))/\D=w):=al;have p1:((c.alloc (.cells #[I J k] 3)).drew).cell? ⟨l,q.length *3+1,N⟩=S (.slice (S ⟨d,0,N⟩) (f.length+1) tc):=(World.cell?_alloc_lt _ _ _ (show l<c.heap.size by omega)).trans d1;have p2:((c.alloc (.cells #[I J k] 3)).drew).cell? ⟨d,f.length,N⟩=S (I J k):=(World.cell?_alloc_lt _ _ _ (show d<c.heap.size by omega)).trans d2;have p3:((c.alloc (.cells #[I J k] 3)).drew).frozen? ⟨d,f.length,N⟩=false:=(World.frozen?_alloc_old _ _ _ (show d≠c.heap.size by omega)).trans d5;have az:=z6 p1;have aA:=z6 p2;have aB:=z6 p3;have z:Hid (l<((c.alloc (.cells #[I J k] 3)).drew).heap.size/\d<((c.alloc (.cells #[I J k] 3)).drew).heap.size/\l≠i/\d≠i):=by
  have j:((c.alloc (.cells #[I J k] 3)).drew).heap.size=c.heap.size+1:=by show(c.alloc _).heap.size=_;simp
  exact⟨by rw[j];omega,by rw[j];omega,aJ,aM⟩
 clear p1 p2 p3;have a3:=(show Hid (S l≠(Value.slice (S ⟨y,0,N⟩) M.xs.length E).ownBlock/\S d≠(Value.slice (S ⟨y,0,N⟩) M.xs.length E).ownBlock)from⟨am,an⟩);have au:=(show Hid _ from ae);have ad:B<=c.heap.size:=by omega
 clear p U af a4 ae R cf c0 c2 c4 O ck x0 x1 x2 x3 x4 f4 qf ap ag a1 ah al d2 d3 d4 d5 am an aN aO a2 aL;have aW:IntKind.i64.wrap (f.length:Int)=(f.length:Int):=by unfold IntKind.wrap;simp[IntKind.signed,IntKind.bits];omega
 have aX:(0:Int)<=(f.length:Int):=by omega
 go_region_held (λD=>D.cell? ⟨l,q.length *3+1,N⟩=S (.slice (S ⟨d,0,N⟩) (f.length+1) tc)) (go_keep) (first|(go_at_call 143;refine(aw.out _).mono ?_;rintro j D⟨rfl,hw⟩;replace hw:=hw.symm;subst hw)|(go_at_call 102;go_loud(refine ar.out.mono ?_;rintro j w2⟨b2,b0,rfl,F⟩;have a0:=z6 F;have y1:=(World.cell?_of_block (a:=⟨l,q.length *3+1,N⟩) (F.same l z.out.1 z.out.2.2.1 a3.out.1)).trans az.out;have y2:=(World.cell?_of_block (a:=⟨d,f.length,N⟩) (F.same d z.out.2.1 z.out.2.2.2 a3.out.2)).trans aA.out;have y5:=(World.frozen?_of_block (a:=⟨d,f.length,N⟩) (F.same d z.out.2.1 z.out.2.2.2 a3.out.2)).trans aB.out;clear F)));all_goals(have y3:w2.cell? ⟨i,4,N⟩=S (.bool M.may):=z8 a0.out.blk 4;have y4:w2.frozen? ⟨i,4,N⟩=false:=zi a0.out.blk 4)
 all_goals go_wp2_with fail
 all_goals
  have aH:Ints ((c.alloc (.cells #[I J k] 3)).drew) B (.slice (S ⟨c.heap.size,0,N⟩) 1 1) [k]:=Zv (World.ownsRow_lit c #[I J k] 1 ad (by decide) rfl) (Below.refl _ _).drew;obtain⟨hA1,aE⟩:=ay.out.add (re:=zy (zE s) k) (iv:=.slice N 0 0) (pv:=.slice (S ⟨c.heap.size,0,N⟩) 1 1) (by rw[HX.out];exact a0.out) (World.ownsRow_nil _ _ _ _) aH (λr hb=>by simp[Value.ownBlock]at hb;subst hb;simp[upd]);obtain⟨hA2,aF⟩:=hA1.setLast (mr:=q) (m:=v) HO.out ab.out aC.out M.xs.length;obtain⟨hA3,aG⟩:=hA2.setMay false;go_end0;refine⟨rfl,_,_,hA3,?_,?_⟩;·exact ax.out.trans (au.out.trans ((((KT.alloc B c ad _)).drew).trans (aE.trans (aF.trans aG))))
  ·have j:M.st.top=v.1:=by simp[MV.st,ST.top,HO.out,List.getLastD_concat]
   have e2:M.st.xs.getD k RE.z=x.1:=by rw[aD.out];simp[MV.st,V]
   have e3:M.st.xs.length=M.xs.length:=by simp[MV.st]
   unfold ST.behind;simp only[j,ab.out,List.getLastD_concat,e2,e3];rw[if_neg (by have:=av.out;omega)];simp[MV.st,ST.add,ST.setTop,HO.out]
theorem zho(w:World)(B d:Nat)(M:MV)(r:Nat->Nat)(h:Mem w B d M r (· =0))(A:List (OP×Value×Value))(m:OP×Value×Value)(Y:M.os=A++[m])(u:List Nat)(e:Nat)(ht:m.1.terms=u++[e])(K:e<M.xs.length)(aq:(M.xs[e].1.kind=10\/M.xs[e].1.kind=11)/\M.xs[e].1.parts≠[])(D:z7)(aW:YW D)(b4:M.xs.length<=90000)(b5:u.length<=90000)(b6:A.length<=90000):Calls P 142 #[.pointer (S ⟨d,0,N⟩),.string ⟨D.toArray⟩] w λe' R=>QS w B d (M.st.behind D) (.tuple #[]) e' R:=by
 have F:=aq;obtain⟨og,oc,hv,b7,bb,bc,q0,q1,q2,qf⟩:=h.topAt Y;have c2:w.cell? ⟨d,2,N⟩=S M.vo:=z8 h.blk 2;have c4:w.cell? ⟨d,4,N⟩=S (.bool M.may):=z8 h.blk 4;have f4:w.frozen? ⟨d,4,N⟩=false:=zi h.blk 4;rw[hv]at c2;obtain⟨h1,h2,h3,h4⟩:=(h.topCells Y hv).2.2.2.2.2.2;have t:=h3;unfold Ints at t;rw[ht]at t;obtain⟨tg,tc,a1,_,aY⟩:=t.form (by simp);rw[a1]at t q1;have ck:w.cell? ⟨tg,u.length,N⟩=S (I J e):=by rw[t.cellAt _ (by simp)];simp[Zq]
 obtain⟨v,xc,L,bg,aA,⟨bj,aZ⟩,ay,aw⟩:=h.exAt (by omega);obtain⟨x0,x1,x2,x3,E⟩:=aw e K;have c0:w.cell? ⟨d,0,N⟩=S M.vx:=z8 h.blk 0;rw[L]at c0;have Z:=(h.parts M.xs[e] (List.getElem_mem K)).1;have a7:=h.items M.xs[e] (List.getElem_mem K);obtain⟨ia,ic,a9⟩:=zl a7;obtain⟨pa,pc,a0⟩:=zl Z;obtain⟨x,ab⟩:∃x,x=M.xs[e]:=⟨_,rfl⟩;rw[<-ab]at x0 x1 x2 x3 E Z a7 a9 a0 F;rw[a9]at x1;rw[a0]at E;simp only[List.length_append,List.length_singleton]at q1 a1 aY t;have au:=h.lt;have b8:=h.ge;have hL:(A.length:Int)<(A.length:Int)+1:=by omega
 have hT:(u.length:Int)<(u.length:Int)+1:=by omega
 have hK:(e:Int)<(M.xs.length:Int):=by omega
 have H:Hid (Mem w B d M r (· =0)):=h;have HO:Hid (M.os=A++[m]):=Y;have HV:Hid (M.vo=.slice (S ⟨og,0,N⟩) (A.length+1) oc):=hv;have aO:Hid (m.1.terms=u++[e]):=ht;have b3:Hid (m.2.2=.slice (S ⟨tg,0,N⟩) (u.length+1) tc):=a1;have HX:Hid (M.vx=.slice (S ⟨v,0,N⟩) M.xs.length xc):=L;have a4:Hid (x=M.xs[e]):=ab;obtain⟨p,n,z⟩:∃p n,x.1.parts=p::n:=by
  cases hc:x.1.parts with
  |nil=>exact absurd hc F.2|cons p n=>exact⟨p,n,rfl⟩
 have q:=Z;unfold Ints at q;rw[z]at q;obtain⟨f,O,aa,_,a8⟩:=q.form (by simp);rw[aa]at q;have cp:w.cell? ⟨f,0,N⟩=S (I J p):=by rw[q.cellAt _ (by simp)];simp[Zq]
 have E:w.cell? ⟨v,e *5+4,N⟩=S (.slice (S ⟨f,0,N⟩) (n.length+1) O):=by rw[E, <-a0,aa];simp
 have bd:(0:Int)<(n.length:Int)+1:=by omega
 have aN:Hid (x.1.parts=p::n):=z;have b2:Hid (True):=trivial;have aR:((x.1.kind:Int)==10)=true\/(((x.1.kind:Int)==10)=false/\((x.1.kind:Int)==11)=true):=by
  rcases F.1 with h|h<;>rw[h];·left;rfl
  ·right;exact⟨rfl,rfl⟩
 have aH:Hid (x.1.kind=10\/x.1.kind=11):=F.1;have aS:=λw=>zan D aW w;have aQ:=λ(W:World) (b1:Nat->Nat) (hM:Mem W B d M b1 (· =0)) (pa:Option Addr) (pl pc:Nat)=>YG W B d (S ⟨v,0,N⟩) xc M.xs.length M.vr M.vo M.sign M.may (M.xs.flatMap exC) (zE D) N 0 0 ⟨#[]⟩ 0 pa pl pc (by rw[<-L];exact hM.blk) (by rw[<-L];exact hM.ex) (by omega) hM.ge;have b9:(e:Int)<(M.xs.length:Int)+1:=by omega
 have aU:f≠v:=λj=>zn q aZ (by decide) (by rw[<-j];rfl);have aT:f≠d:=λj=>zn q h.blk (by decide) (by rw[<-j];rfl);clear h Y hv ht a1 L ab Z q z aa a7 a9 a0 h1 h2 h3 t h4 aw aq q0 q2 F;go_enter func142,ntmps142;go_wp2_with fail;go_quiet(fail);go_wp2_with fail;go_quiet(fail);generalize l:(w.drewN _).drewN _=W;have am:∀s,w.cell? s=W.cell? s:=λs=>by rw[<-l];rfl
 have an:∀s,w.frozen? s=W.frozen? s:=λs=>by rw[<-l];rfl
 have X:W.heap=w.heap:=by rw[<-l];rfl
 simp only[am]at c0 c2 c4 q1 ck x0 x1 x2 x3 E cp;simp only[an]at f4 qf ay;have HW:Hid (Mem W B d M r (· =0)):=by rw[<-l];exact(H.out.drewN _).drewN _
 have aJ:Hid (KT B w W):=by rw[<-l];exact((KT.refl B w).drewN _).drewN _
 have au:d<W.heap.size:=by rw[X];exact au
 have aA:v<W.heap.size:=by rw[X];exact aA
 have a8:f<W.heap.size:=by rw[X];exact a8
 clear l am an X H q1 ck qf;rcases aR with kk|⟨k1,k2⟩;all_goals
  go_wp2_with fail;generalize l:W.alloc (.cells #[I J x.1.kind,.slice ia x.1.items.length ic,.string ⟨x.1.text.toArray⟩,I J x.1.rule,.slice (S ⟨f,0,N⟩) (n.length+1) O] 149)=c;have a6:Below W.heap.size W c:=by rw[<-l];exact zc _ _
  have aX:c.heap.size=W.heap.size+1:=by rw[<-l];simp
  have ak:=HW.out.below (lab':=r) a6 (λ_ _=>rfl);have ag:KT B W c:=by rw[<-l];exact KT.alloc B W (by omega) _
  have cc:∀b o,b<W.heap.size->c.cell? ⟨b,o,N⟩=W.cell? ⟨b,o,N⟩:=(Y3 a6).1;have d0:c.cell? ⟨f,0,N⟩=S (I J p):=(cc _ _ a8).trans cp;have d1:c.cell? ⟨W.heap.size,4,N⟩=S (.slice (S ⟨f,0,N⟩) (n.length+1) O):=by rw[<-l];simp
  have ba:W.heap.size<c.heap.size:=by omega
  have be:f<c.heap.size:=by omega
  have a5:=(ak.below (lab':=upd r c.heap.size 0) (w':=c.alloc (.cells #[I J p] 3)) (zc _ _) (λg hg=>by unfold upd;rw[if_neg (by omega)])).drew;have al:=aQ _ _ a5 (S ⟨c.heap.size,0,N⟩) 1 1;have aK:=z6 a5;have aD:=z6 al;have aI:=z6 aS;have aE:=z6 ag;have ae:B<=c.heap.size:=by omega
  have p1:((c.alloc (.cells #[I J p] 3)).drew).cell? ⟨W.heap.size,4,N⟩=S (.slice (S ⟨f,0,N⟩) (n.length+1) O):=(World.cell?_alloc_lt _ _ _ (show W.heap.size<c.heap.size by omega)).trans d1;have p2:((c.alloc (.cells #[I J p] 3)).drew).cell? ⟨f,0,N⟩=S (I J p):=(World.cell?_alloc_lt _ _ _ (show f<c.heap.size by omega)).trans d0;have j:((c.alloc (.cells #[I J p] 3)).drew).heap.size=c.heap.size+1:=by show(c.alloc _).heap.size=_;simp
  have aL:=z6 p1;have aM:=z6 p2;have a2:Hid (W.heap.size<((c.alloc (.cells #[I J p] 3)).drew).heap.size/\W.heap.size≠d/\S W.heap.size≠(Value.slice (S ⟨v,0,N⟩) M.xs.length xc).ownBlock):=⟨by rw[j];omega,by omega,by simp[Value.ownBlock];omega⟩;have a3:Hid (f<((c.alloc (.cells #[I J p] 3)).drew).heap.size/\f≠d/\S f≠(Value.slice (S ⟨v,0,N⟩) M.xs.length xc).ownBlock):=⟨by rw[j];omega,aT,by simpa[Value.ownBlock]using aU⟩;clear p1 p2 j;clear l a6 ak a5 ag cc c0 c2 c4 x0 x1 x2 x3 E f4 ay al aX cp;go_region_held (λR=>R.cell? ⟨W.heap.size,4,N⟩=S (.slice (S ⟨f,0,N⟩) (n.length+1) O)/\R.cell? ⟨f,0,N⟩=S (I J p)) (go_keep) (first|(go_at_call 143;refine(aI.out _).mono ?_;rintro j R⟨rfl,hw⟩;replace hw:=hw.symm;subst hw)|(go_at_call 102;go_loud(refine aD.out.mono ?_;rintro j i⟨U,aB,rfl,V⟩;have y:=z6 V;have y1:=(World.cell?_of_block (a:=⟨W.heap.size,4,N⟩) (V.same W.heap.size a2.out.1 a2.out.2.1 a2.out.2.2)).trans aL.out;have y2:=(World.cell?_of_block (a:=⟨f,0,N⟩) (V.same f a3.out.1 a3.out.2.1 a3.out.2.2)).trans aM.out;clear V)));all_goals
   have ao:Ints ((c.alloc (.cells #[I J p] 3)).drew) B (.slice (S ⟨c.heap.size,0,N⟩) 1 1) [p]:=Zv (World.ownsRow_lit c #[I J p] 1 ae (by decide) rfl) (Below.refl _ _).drew;obtain⟨hA1,ah⟩:=aK.out.add (re:=zy (zE D) p) (iv:=.slice N 0 0) (pv:=.slice (S ⟨c.heap.size,0,N⟩) 1 1) (by rw[HX.out];exact y.out) (World.ownsRow_nil _ _ _ _) ao (λb G=>by simp[Value.ownBlock]at G;subst G;simp[upd]);have bf:=y.out.size;have ar:=λg (hg:g<i.heap.size)=>(show upd (upd r c.heap.size 0) i.heap.size 0 g=upd r c.heap.size 0 g by rw[upd,if_neg (by omega)]);have ad:=hA1.below (w':=i.alloc (.cells #[I J M.xs.length] 3)) (lab':=upd (upd r c.heap.size 0) i.heap.size 0) (zc _ _) ar;have af:B<=i.heap.size:=by have:=hA1.lt;have:=hA1.ge;omega
   have ap:Ints (i.alloc (.cells #[I J M.xs.length] 3)) B (.slice (S ⟨i.heap.size,0,N⟩) 1 1) [M.xs.length]:=World.ownsRow_lit i #[I J M.xs.length] 1 af (by decide) rfl;obtain⟨hA2,ai⟩:=ad.setParts (k:=e) (xg:=U) (xc:=aB) (by simp;omega) (by simp) ap (λb G=>by simp[Value.ownBlock]at G;subst G;simp[upd]);obtain⟨bk,bi,av,_,b0,_,az,ax⟩:=hA1.exAt (by simp);simp only[List.length_append,List.length_singleton,Value.slice.injEq,Option.some.injEq,Addr.mk.injEq,and_true,true_and]at av;obtain⟨rfl,rfl⟩:=av;have z4:=(ax e (by simp;omega)).2.2.2.2;have zf:=az (e *5+4);have z0:i.cell? ⟨d,0,N⟩=S (.slice (S ⟨U,0,N⟩) (M.xs.length+1) aB):=z8 y.out.blk 0;have y3:i.cell? ⟨d,4,N⟩=S (.bool M.may):=z8 y.out.blk 4;have y4:i.frozen? ⟨d,4,N⟩=false:=zi y.out.blk 4;have aV:d<i.heap.size:=za y.out.blk;have bh:U≠d:=λj=>zn hA1.ex hA1.blk (by decide) (by rw[<-j];rfl);have aC:=z6 hA2;have aG:Hid (KT B w (i.alloc (.cells #[I J M.xs.length] 3))):=aJ.out.trans (aE.out.trans ((((KT.alloc B c ae _)).drew).trans (ah.trans (KT.alloc B i af _))));have aF:=z6 ai;clear hA1 ad hA2 ah ai ar ao ap ax az
  all_goals go_wp2_with fail
  all_goals
   obtain⟨hA3,aP⟩:=aC.out.setMay false;have ew:((i.alloc (.cells #[I J M.xs.length] 3)).setCell ⟨U,e *5+4,N⟩ (.slice (S ⟨i.heap.size,0,N⟩) 1 1)).setCell ⟨d,4,N⟩ (.bool false)=((i.setCell ⟨U,e *5+4,N⟩ (.slice (S ⟨i.heap.size,0,N⟩) 1 1)).setCell ⟨d,4,N⟩ (.bool false)).alloc (.cells #[I J M.xs.length] 3):=by rw[World.setCell_alloc_past _ _ _ _ b0,World.setCell_alloc_past _ _ _ _ (by simpa using aV)]
   rw[ew]at hA3;have aj:=aG.out.trans (aF.out.trans aP);rw[ew]at aj;go_end0;refine⟨rfl,_,_,hA3,aj,?_⟩;have j:M.st.top=m.1:=by simp[MV.st,ST.top,HO.out,List.getLastD_concat]
   have e2:M.st.xs.getD e RE.z=x.1:=by rw[a4.out];simp[MV.st,K]
   have e3:M.st.xs.length=M.xs.length:=by simp[MV.st]
   unfold ST.behind;simp only[j,aO.out,List.getLastD_concat,e2,e3];rw[if_pos aH.out];have z:=aN.out;rw[a4.out]at z;simp[MV.st,a4.out,List.map_set,K,z]
theorem KL{p:Prop}(h:p):Hid p:=h
theorem zin(a:List (z7×Nat))(r:z7×Nat)(u:Nat):((a++[r]).flatMap ruC).set (a.length *2+1) (I J u)=(a++[(r.1,u)]).flatMap ruC:=by rw[List.flatMap_append,List.set_append_right _ _ (by rw[UX];omega),UX,show a.length *2+1-a.length *2=1 from by omega,List.flatMap_append];simp[ruC]
theorem Mem.setBody{w:World}{B i:Nat}{M:MV}{s:Nat->Nat}(h:Mem w B i M s (· =0)){a:List (z7×Nat)}{r:z7×Nat}(D:M.rs=a++[r]){d u:Nat}(q:M.vr=.slice (S ⟨d,0,N⟩) (a.length+1) u)(n:Nat):Mem (w.setCell ⟨d,a.length *2+1,N⟩ (I J n)) B i {M with rs:=a++[(r.1,n)]} s (· =0)/\KT B w (w.setCell ⟨d,a.length *2+1,N⟩ (I J n)):=by
 have c:=Chg.set d (a.length *2+1) (I J n) w;have g:=h.ru;rw[q,D]at g;obtain⟨F,e⟩:=Qw g (b:=d) rfl;have A:i≠d:=by intro v;subst v;have:=zn g h.blk (by decide);simp[Value.ownBlock]at this
 have E:w.ownsRow B 90 2 (.slice (S ⟨d,0,N⟩) (a.length+1) u) (a.length+1) ((a++[r]).flatMap ruC):=by simpa using g
 have o:=(E.stored (a.length *2+1) (I J n)).1;rw[zin]at o;refine⟨⟨h.ge,by rw[c.same i h.lt A];exact h.blk,zq c h.ex (zn h.ex e (by decide)),?_,zq c h.op (zn h.op e (by decide)),λp f=>zq c (h.items p f) (zn (h.items p f) e (by decide)),λp f=>⟨zq c (h.parts p f).1 (zn (h.parts p f).1 e (by decide)),(h.parts p f).2⟩,?_⟩,KT.chg c (by have:=h.lt;have:=h.ge;omega) (g.lt d rfl).1 (λG t H k=>by rw[e]at k;simp at k;rw[<-k.2.1];decide)⟩;·simp only[q,List.length_append,List.length_singleton];exact o
 ·intro j z;obtain⟨l,x,m,y⟩:=h.opens j z;exact⟨zq c l (zn l e (by decide)),x,zq c m (zn m e (by decide)),y⟩
theorem zcq(w:World)(B c:Nat)(M:MV)(D:Nat->Nat)(h:Mem w B c M D (· =0))(a:List (z7×Nat))(r:z7×Nat)(q:M.rs=a++[r])(t:List (OP×Value×Value))(m:OP×Value×Value)(z:M.os=t++[m])(V:M.xs.length<=90000)(W:m.1.seqs.length<=90000)(X:t.length<=90000)(a0:a.length<=90000):Calls P 98 #[.pointer (S ⟨c,0,N⟩)] w λU Y=>QS w B c {M.st.closed with rs:=a++[(r.1,M.xs.length+1)]} (.tuple #[]) U Y:=by
 have x:=zcb w B c M D h t m z V W X;have k:w.cell? ⟨c,1,N⟩=S M.vr:=z8 h.blk 1;have s:=h.ru;rw[q]at s;obtain⟨rg,rc,A,_,_⟩:=s.form (by simp);rw[A]at k;have b:(a++[r]).length=a.length+1:=by simp
 rw[b]at k;have y:M.st.closed.rs=a++[r]:=by show M.st.rs=_;exact q
 have F:=KL y;have a3:(0:Int)<(a.length:Int)+1:=by omega
 clear h q z s A b y;go_enter func98,ntmps98;go_wp2_with fail;refine x.mono ?_;rintro i u⟨rfl,g,a5,d,v,o⟩;have p:g.rs=a++[r]:=by have i:g.st.rs=g.rs:=rfl;rw[<-i,o];exact F.out
 have j:=d.ru;rw[p]at j;obtain⟨E,a6,f,a1,a2⟩:=j.form (by simp);have b:(a++[r]).length=a.length+1:=by simp
 rw[b]at f;have R:u.cell? ⟨c,1,N⟩=S g.vr:=z8 d.blk 1;rw[f]at R;have e:=j;rw[f]at e;simp only[b]at e;have Z:u.cell? ⟨E,a.length *2+1,N⟩=S (I J r.2):=by rw[e.cellAt _ (by omega),List.flatMap_append,List.getElem?_append_right (by rw[UX];omega),UX,show a.length *2+1-a.length *2=1 from by omega];simp[ruC]
 have d3:u.frozen? ⟨E,a.length *2+1,N⟩=false:=e.frozenAt _;have hL:(a.length:Int)<(a.length:Int)+1:=by omega
 have H:=KL d;have K:=KL p;have O:=KL f;have G:=KL v;have L:=KL o;have a4:=d.lt;clear x d p j f b e v o k;go_wp2_with fail;go_region;go_wp2_with fail;obtain⟨n,l⟩:=H.out.setBody K.out O.out (M.xs.length+1);have n:=n.drew;have l:=l.drew;go_end0;refine⟨rfl,_,_,n,G.out.trans l,?_⟩;have i:=L.out;rw[<-i];rfl
theorem zi8(w:World)(B b:Nat)(M:MV)(g:Nat->Nat)(h:Mem w B b M g (· =0))(d:M.rs=[]):Calls P 98 #[.pointer (S ⟨b,0,N⟩)] w λf i=>f=.returned (.tuple #[])/\i=w:=by have c:w.cell? ⟨b,1,N⟩=S M.vr:=z8 h.blk 1;have a:=h.ru;rw[d]at a;obtain⟨j,k,e⟩:=zl a;rw[e]at c;simp only[List.length_nil]at c;clear h d a e;go_enter func98,ntmps98;go_wp2_with fail;go_end0;exact⟨rfl,rfl⟩
end
end Go.Proofs.YtiganlkabilblaaGreatDoor
