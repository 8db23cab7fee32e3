import Derived.Test.YtiganlkabilblaaGreatDoorV24
import Derived.Deep.RegionHeldLaw
import Derived.Deep.AppendLies
set_option linter.all false
set_option maxHeartbeats 64000000
set_option maxRecDepth 100000
namespace Go.Proofs.YtiganlkabilblaaGreatDoor
open Tryz
open Tryz renaming prog->P
open Option renaming some->S,none->N
open Value renaming int->I
open IntKind renaming i64->J
section
open Go.RowKit
attribute [local go_sem ↓] Go.wp_at_zero Go.wp_at_succ
theorem zj8(k:Nat)(hI:zaK k):zaN k:=by
 intro w B X Y a1 L S j A t v h a0 H hA U G M hw;obtain⟨a,p,b⟩:=t;simp only[Zk]at H;simp only[Jx]at U;simp only[wtT]at M hw|-;obtain⟨vt,vx,rfl⟩:=zp.oneCell H;simp only[QN,Term.ahead,Term.behind];have D:=z6 (λO=>hI (w.alloc O) B X Y a1 L S j A a p b (.iface vt vx) (h.below (zc w O)) (a0.below (zc w O)) (zp.kept (ZF (zc w O)) p _ H) hA U G (by omega) (by omega));simp only[QN,Term.ahead,Term.behind]at D;have V:=zd h.blk;simp only[okT]at G;have a2:=G.1;have HN:=z6 M;have Z:=z6 h.blk;clear h a0 H G hI U M hA;rcases a2 with rfl|rfl|rfl;·go_enter func174,ntmps174;go_wp2_with fail;refine(D.out _).mono ?_;rintro _ f⟨c,y,n,x,r,rfl,i,z,d,s,F,hd,e,g⟩;have o2:f.cell? ⟨w.heap.size,0,N⟩=some (I .u8 0):=z8 (KpM.own (by simpa using V) e) 0;have l:=z6 e.alloc;have E:=z6 ((GrS.refl _ _).below g (zc w _));have m:=z6 d.blk;have q:Hid (DnT c j n (.mk 0 p b)):=z6 (by simp only[DnT];exact⟨n,by simp,hd⟩);have HX:=z6 i;clear e hd m i;go_wp2_with fail;go_ret;exact⟨c,y,n,x,r,rfl,HX.out,z,d,s,by omega,q.out,l.out,(GrS.refl _ _).below g (zc _ _)⟩
 ·go_enter func174,ntmps174;go_wp2_with fail;refine(D.out _).mono ?_;rintro _ f⟨c,y,n,x,r,rfl,i,z,d,s,F,hd,e,g⟩;have o2:f.cell? ⟨w.heap.size,0,N⟩=some (I .u8 38):=z8 (KpM.own (by simpa using V) e) 0;have l:=z6 e.alloc;have E:=z6 ((GrS.refl _ _).below g (zc w _));have m:=z6 d.blk;have o:Hid (Calls prog 191 #[z9 B,zT x,.bool true] f (Qg B X Y c (L++y) r (.ahead n true) f)):=z6 (by have:=zaV d (by have:=HN.out;omega) n z true;rw[i];exact this);have q:Hid (DnT (c++[Nd.ahead n true]) j c.length (.mk 38 p b)):=z6 (by have R:=zbq (Goes.app c [Nd.ahead n true]) hd;simp only[DnT];exact⟨n,by rw[if_neg (by decide)];simp,R⟩)
  have J:=z6 d.len;clear e hd d i g;simp only[zT]at o|-;go_wp2_with fail;refine o.out.mono ?_;rintro _ w2 u;have W:=Mak.then1 (wt:=2 *(2+wtP p)) (P:=λK n=>DnT K j n (.mk 38 p b)) Z.out m.out s J.out F l.out E.out q.out (by omega) u;obtain⟨x2,S2,rfl,h2,h3,h4⟩:=u;go_wp2_with fail;go_ret;exact W
 ·go_enter func174,ntmps174;go_wp2_with fail;refine(D.out _).mono ?_;rintro _ f⟨c,y,n,x,r,rfl,i,z,d,s,F,hd,e,g⟩;have o2:f.cell? ⟨w.heap.size,0,N⟩=some (I .u8 33):=z8 (KpM.own (by simpa using V) e) 0;have l:=z6 e.alloc;have E:=z6 ((GrS.refl _ _).below g (zc w _));have m:=z6 d.blk;have o:Hid (Calls prog 191 #[z9 B,zT x,.bool false] f (Qg B X Y c (L++y) r (.ahead n false) f)):=z6 (by have:=zaV d (by have:=HN.out;omega) n z false;rw[i];exact this);have q:Hid (DnT (c++[Nd.ahead n false]) j c.length (.mk 33 p b)):=z6 (by have R:=zbq (Goes.app c [Nd.ahead n false]) hd;simp only[DnT];exact⟨n,by rw[if_neg (by decide)];simp,R⟩)
  have J:=z6 d.len;clear e hd d i g;simp only[zT]at o|-;go_wp2_with fail;refine o.out.mono ?_;rintro _ w2 u;have W:=Mak.then1 (wt:=2 *(2+wtP p)) (P:=λK n=>DnT K j n (.mk 33 p b)) Z.out m.out s J.out F l.out E.out q.out (by omega) u;obtain⟨x2,S2,rfl,h2,h3,h4⟩:=u;go_wp2_with fail;go_ret;exact W
end
section
open Go.RowKit
theorem zcV{P:Program}{d:Array Oper}{o:Oper}{a:Act}{w:World}{K:Act->World->Prop}{Q:Exit->Act->World->Prop}{E:Prop}(j:o.guard=N)(f:FuncId)(c:Array Value)(l:(execOp a.eval o).run P w=.ok (.enter f c) w){R:Value->World->Prop}(i:Calls P f c w λe b=>∃v,e=.returned v/\R v b)(h:∀v b,R v b->K (a.put o.dst v) b):if Region.wanted o (yielded d a.tmps)=true then Oper.wp P o a w K Q else E:=by
 have k:Region.wanted o (yielded d a.tmps)=true:=by simp[Region.wanted,j]
 rw[if_pos k];unfold Oper.wp;rw[l];simp only[Oper.upon];refine i.mono ?_;rintro e b⟨v,rfl,g⟩;exact h v b g
structure LpM(w:World)(kb mb nb:Nat)(N:List Nd)(bx:List (Nat×Nat×Nat))(S:Nat->Prop)(wt:Nat)(P:List Nd->List Nat->Prop)(i:Nat)(a:Option Addr)(c:Nat)(wr:World)(N':List Nd)(y:List (Nat×Nat×Nat))(ks:List Nat)(S':Nat->Prop):Prop where
 mkr:Mk wr kb mb nb N' (bx++y) S'
 goes:Goes N N'
 cnt:N'.length<=N.length+wt
 ok:P N' ks
 lt:∀k∈ks,k<N'.length
 len:ks.length=i
 box:wr.heap[w.heap.size]?=some (zh (.slice a i c) 175)
 row:wr.ownsRow (w.heap.size+1) 226 1 (.slice a i c) i (ks.map (clV (bx++y)))
 nbx:¬S' w.heap.size
 nr:∀g,(Value.slice a i c).ownBlock=some g->¬S' g
 kp:KpM [kb] w.heap.size w wr
 gr:GrS w S S'
theorem LpM.start{w:World}{c d e:Nat}{a:List Nd}{b:List (Nat×Nat×Nat)}{S:Nat->Prop}{P:List Nd->List Nat->Prop}(h:Mk w c d e a b S)(f:P a []):LpM w c d e a b S 0 P 0 N 0 (w.alloc (zh (.slice N 0 0) 175)) a [] [] S:=by refine⟨by rw[List.append_nil];exact h.below (zc _ _),Goes.refl _,by omega,f,by simp,rfl,zk _ _,World.ownsRow_nil _ _ _ _,λg=>by have:=h.lt _ g;omega,by simp[Value.ownBlock],KpM.of_below (zc _ _),GrS.refl _ _⟩
theorem zgv{a c:List (Nat×Nat×Nat)}{b:List Nat}(h:∀k∈b,k<a.length):b.map (clV (a++c))=b.map (clV a):=List.map_congr_left (λk d=>Y5 (h k d) c)
theorem LpM.call{w wr p o:World}{d m n:Nat}{N j e:List Nd}{r y D:List (Nat×Nat×Nat)}{S q l:Nat->Prop}{A B:Nat}{P:List Nd->List Nat->Prop}{i:Nat}{a:Option Addr}{c:Nat}{z:List Nat}(h:LpM w d m n N r S A P i a c wr j y z q)(W:d<w.heap.size)(O:w.heap[d]?=some (Qd m (.map (some n)) N.length))(s:Below wr.heap.size wr p)(F:Mk o d m n e ((r++y)++D) l)(M:Goes j e)(X:e.length<=j.length+B)(G:KpM [d] p.heap.size p o)(J:GrS p q l)(H:P e z)(R:j.length<=e.length):LpM w d m n N r S (A+B) P i a c o e (y++D) z l:=by
 have t:KpM [d] wr.heap.size wr o:=(KpM.of_below s).trans (G.mono s.size);have K:=zd h.box;have u:GrS wr q l:=(GrS.refl _ _).below J s;have V:=h.cnt;refine⟨by rw[<-List.append_assoc];exact F,h.goes.trans M,by omega,H,λk v=>Nat.lt_of_lt_of_le (h.lt k v) R,h.len,?_,?_,?_,?_,h.kp.go t,h.gr.trans u O ⟨_,h.mkr.blk⟩ (Up.of_kpM h.kp)⟩;·rw[t.block _ K (by simp;omega)];exact h.box
 ·rw[<-List.append_assoc,zgv (λk v=>by rw[h.mkr.len];exact h.lt k v)];exact Z6 h.row (λg f=>t.block g (h.row.lt g f).2 (by have:=(h.row.lt g f).1;simp;omega))
 ·intro x;rcases u _ x with b|b|⟨E,b⟩;·exact h.nbx b
  ·omega
  ·rw[h.box]at b;simp at b
 ·intro g f x;rcases u _ x with b|b|⟨E,b⟩;·exact h.nr g f b
  ·have:=(h.row.lt g f).2;omega
  ·obtain⟨U,L⟩:=Zr h.row f;rw[L]at b;simp at b
theorem LpM.put{w p f:World}{s E F:Nat}{v q:List Nd}{m y:List (Nat×Nat×Nat)}{S z:Nat->Prop}{G:Nat}{P P':List Nd->List Nat->Prop}{i:Nat}{a j:Option Addr}{c l:Nat}{t:List Nat}{O:Obj}{n:Nat}{x:Nat×Nat×Nat}(h:LpM w s E F v m S G P i a c p q y t z)(X:s<w.heap.size)(V:x=(m++y).getD n (0,0,0))(u:n<q.length)(H:P' q (t++[n]))(A:f.ownsRow (w.heap.size+1) 226 1 (.slice j (i+1) l) (i+1) (t.map (clV (m++y))++[zT x]))(o:(p.alloc O).grownBy f (Value.slice a i c).ownBlock)(J:(Value.slice j (i+1) l).ownBlock=(Value.slice a i c).ownBlock\/(Value.slice j (i+1) l).ownBlock=some (p.alloc O).heap.size):LpM w s E F v m S G P' (i+1) j l (f.setCell ⟨w.heap.size,0,N⟩ (.slice j (i+1) l)) q y (t++[n]) z:=by
 have U:=o.size;simp at U;have K:=zd h.box;have Y:=h.kp.size;have r:∀g,g<p.heap.size->some g≠(Value.slice a i c).ownBlock->f.heap[g]?=p.heap[g]?:=λg b R=>by rw[o.block g (by simp;omega) R,zm _ _ b]
 have L:f.heap[w.heap.size]?=some (zh (.slice a i c) 175):=by rw[r _ K (λe=>by have:=(h.row.lt _ e.symm).1;omega)];exact h.box
 have D:(f.setCell ⟨w.heap.size,0,N⟩ (.slice j (i+1) l)).heap.size=f.heap.size:=by simp[World.setCell]
 refine⟨h.mkr.same (by rw[D];omega) (λg b=> ?_) ?_,h.goes,h.cnt,H,?_,by simp[h.len],?_,?_,h.nbx,?_,?_,h.gr⟩;·rw[Below.heap_setCell _ _ _ _ (λe=>by subst e;exact h.nbx b)];exact r g (h.mkr.lt g b) (λe=>h.nr g e.symm b)
 ·rw[Below.heap_setCell _ _ _ _ (by simp;omega)];exact r s (by omega) (λe=>by have:=(h.row.lt _ e.symm).1;omega)
 ·intro k d;rcases List.mem_append.1 d with d|d;·exact h.lt k d
  ·simp at d;subst d;exact u
 ·rw[zo L];rfl
 ·rw[List.map_append];have M:[n].map (clV (m++y))=[zT x]:=by simp[clV,V]
  rw[M];exact Z6 A (λg b=>Below.heap_setCell _ _ _ _ (by have:=(A.lt g b).1;simp;omega))
 ·intro g b B;rcases J with e|e;·exact h.nr g (by rw[<-e];exact b) B
  ·have W:=h.mkr.lt g B;rw[e]at b;simp at b;omega
 ·refine⟨o.os.trans h.kp.os,o.tape.trans h.kp.tape,o.output.trans h.kp.output,by rw[D];omega,λk d u=> ?_⟩;rw[Below.heap_setCell _ _ _ _ (by simp;omega),r k (by omega) (λe=>by have:=(h.row.lt _ e.symm).1;omega)];exact h.kp.block k d u
theorem LpM.rowC{w wr d:World}{r b s:Nat}{N n:List Nd}{e y:List (Nat×Nat×Nat)}{S o:Nat->Prop}{t:Nat}{P:List Nd->List Nat->Prop}{i:Nat}{a:Option Addr}{c:Nat}{m:List Nat}(h:LpM w r b s N e S t P i a c wr n y m o)(z:b<w.heap.size)(A:wr.heap.size<=d.heap.size)(q:∀g,(Value.slice a i c).ownBlock=some g->d.heap[g]?=wr.heap[g]?)(x:Nat×Nat×Nat):Yu d b (e++y++[x]) m a:=by
 intro j k;have v:=h.len;obtain⟨g,f,p,u⟩:=Jk h.row (by omega);have l:(Value.slice a i c).ownBlock=some g:=by rw[f];rfl
 refine⟨g,f,by omega,by have:=(h.row.lt g l).1;omega,?_⟩;rw[Y5 (by rw[h.mkr.len];exact h.lt _ (List.getElem_mem k))];have:=p j (by omega);simp only[World.cell?]at this|-;rw[q g l,this,List.getElem?_map,List.getElem?_eq_getElem k];rfl
theorem LpM.seq{w wr:World}{j k t:Nat}{N n:List Nd}{r y:List (Nat×Nat×Nat)}{S u:Nat->Prop}{J:Nat}{P:List Nd->List Nat->Prop}{i:Nat}{a:Option Addr}{c:Nat}{q:List Nat}(h:LpM w j k t N r S J P i a c wr n y q u)(G:k<w.heap.size)(L:j<w.heap.size)(D:n.length<=100000000)(K:i<=1000000):Calls prog 150 #[z9 j,.func (.func 175) #[] #[z9 wr.heap.size,z9 w.heap.size]] (wr.alloc (zh (z9 k) 113)) λe m=>∃x l,e=.returned (zT x)/\Mk m j k t (n++[.seq q]) (r++(y++[x])) l/\KpM [j] w.heap.size w m/\GrS w S l:=by
 have E:=zd h.box;have F:=h.len;refine(zab (h.mkr.below (zc wr (zh (z9 k) 113))) D 175 #[z9 wr.heap.size,z9 w.heap.size] (d:=.seq q) h.lt (λb=>b=w.heap.size\/b=wr.heap.size\/(Value.slice a i c).ownBlock=some b) ?_ ?_).mono ?_
 ·rintro b(rfl|rfl|p);·exact⟨by simp;omega,by omega⟩
  ·exact⟨by simp,by omega⟩
  ·have:=h.row.lt b p;exact⟨by simp;omega,by omega⟩
 ·intro x m H o;simp at H;refine⟨wr.heap.size,w.heap.size,a,c,rfl,?_,?_,h.rowC G (by omega) (λg s=> ?_) x,by omega⟩;·rw[o _ (.inr (.inl rfl))];exact zk _ _
  ·rw[o _ (.inl rfl),zm _ _ E,F];exact h.box
  ·rw[o _ (.inr (.inr s)),zm _ _ (h.row.lt g s).2]
 ·rintro e m⟨x,l,v,z,A,B⟩;refine⟨x,l,v,by rw[<-List.append_assoc];exact z,h.kp.go (KpM.alloc A),λb p=> ?_⟩;rcases B b p with f|(f|f|f)|f;·exact h.gr b f
  ·exact .inr (.inl (by omega))
  ·exact .inr (.inl (by omega))
  ·exact .inr (.inl (by have:=(h.row.lt b f).1;omega))
  ·simp at f;exact .inr (.inl (by omega))
theorem LpM.choice{w wr:World}{j p s:Nat}{N m:List Nd}{q y:List (Nat×Nat×Nat)}{S t:Nat->Prop}{J:Nat}{P:List Nd->List Nat->Prop}{i:Nat}{a:Option Addr}{c:Nat}{o:List Nat}(h:LpM w j p s N q S J P i a c wr m y o t)(G:p<w.heap.size)(L:j<w.heap.size)(B:m.length<=100000000)(K:i<=1000000):Calls prog 150 #[z9 j,.func (.func 151) #[] #[z9 w.heap.size]] wr λe l=>∃x k,e=.returned (zT x)/\Mk l j p s (m++[.choice o]) (q++(y++[x])) k/\KpM [j] w.heap.size w l/\GrS w S k:=by
 have D:=zd h.box;have F:=h.len;refine(zab h.mkr B 151 #[z9 w.heap.size] (d:=.choice o) h.lt (λb=>b=w.heap.size\/(Value.slice a i c).ownBlock=some b) ?_ ?_).mono ?_
 ·rintro b(rfl|n);·exact⟨D,by omega⟩
  ·have:=h.row.lt b n;exact⟨by omega,by omega⟩
 ·intro x l H r;refine⟨w.heap.size,a,c,rfl,?_,h.rowC G H (λg E=>r _ (.inr E)) x,by omega⟩;rw[r _ (.inl rfl),F];exact h.box
 ·rintro e l⟨x,k,u,v,z,A⟩;refine⟨x,k,u,by rw[<-List.append_assoc];exact v,h.kp.go z,λb n=> ?_⟩;rcases A b n with f|(f|f)|f;·exact h.gr b f
  ·exact .inr (.inl (by omega))
  ·exact .inr (.inl (by have:=(h.row.lt b f).1;omega))
  ·exact .inr (.inl (by omega))
end
section
open Go.RowKit
attribute [local go_sem ↓] Go.wp_at_zero Go.wp_at_succ
theorem infoExprF:(prog.info? 226).map (λi=>(i.zero,i.size,i.bytes))=S (S .nilFunc,1,8):=by kernel_rfl
theorem VA{c d:World}{O:Obj}{b:Option Nat}{a:Addr}{u:Value}(e:(c.alloc O).grownBy d b)(h:c.cell? a=S u)(f:S a.block≠b):d.cell? a=S u:=e.cell (by rw[World.cell?_alloc_lt _ _ _ (World.block_lt_of_cell? _ _ h)];exact h) f
theorem LpM.wt{w:World}{f j k:Nat}{N:List Nd}{e:List (Nat×Nat×Nat)}{S:Nat->Prop}{l m:Nat}{P:List Nd->List Nat->Prop}{i:Nat}{a:Option Addr}{c:Nat}{wr:World}{b:List Nd}{y:List (Nat×Nat×Nat)}{g:List Nat}{d:Nat->Prop}(h:LpM w f j k N e S l P i a c wr b y g d)(n:l<=m):LpM w f j k N e S m P i a c wr b y g d:={h with cnt:=Nat.le_trans h.cnt (by omega)}
theorem LpM.upTo{w:World}{b k l:Nat}{N:List Nd}{f:List (Nat×Nat×Nat)}{S:Nat->Prop}{m:Nat}{P:List Nd->List Nat->Prop}{i:Nat}{a:Option Addr}{c:Nat}{wr X:World}{d:List Nd}{y:List (Nat×Nat×Nat)}{j:List Nat}{e:Nat->Prop}(h:LpM w b k l N f S m P i a c wr d y j e)(g:Below wr.heap.size wr X):Up b w X:=Up.of_kpM (h.kp.go (KpM.of_below g))
theorem LpM.lenLe{w p:World}{f g j:Nat}{N b d:List Nd}{e y r:List (Nat×Nat×Nat)}{S k l:Nat->Prop}{q:Nat}{P:List Nd->List Nat->Prop}{i:Nat}{a:Option Addr}{c:Nat}{wr:World}{o:List Nat}(h:LpM w f g j N e S q P i a c wr b y o k)(n:Mk p f g j d ((e++y)++r) l):b.length<=d.length:=by have s:=h.mkr.len;have m:=n.len;rw[List.length_append]at m;omega
theorem zcp{w:World}{b i j n g k m:Nat}{e:TypeId}{v:Value}{l:List Value}(f:w.heap[b]?=S (Qd i (.map (S j)) n))(c:e≠224)(h:w.ownsRow 0 e k v m l)(d:v.ownBlock=S g):g≠b:=by rintro rfl;obtain⟨o,a⟩:=Zr h d;rw[f]at a;simp only[Option.some.injEq,Obj.cells.injEq]at a;exact c a.2.1.symm
theorem ziE(k:Nat)(hT:zaN k):zaM k:=by
 intro w q K R a5 E S M A s u h ap hs hA hk a3 hN hw;obtain⟨vs,⟨ae,aJ⟩,af⟩:=hs;obtain⟨ua,uc,rfl⟩:=zl ae;have b6:∀(fn:Fn) (first an:Array Value) (w:World),(Instr.makeFunc fn first an).run prog w=.ok (.func fn first an) w:=λ_ _ _ _=>rfl;have am:Hid (s.length=vs.length):=zD.length af;obtain⟨i0,aL,aT,aU,aV⟩:=info_parts infoExprF;have au:=zd4 s;have aa:=zd2 s;have b7:s.length<=500000:=by omega
 have a9:=zd h.blk;have aO:=h.mlt;have a1:=z6 h.blk;have aC:=z6 ap;have aH:=z6 af;have al:=z6 ae;have HK:=z6 hk;have aE:=z6 a3;have HW:=z6 hw;have aj:=z6 hN;have ab:=z6 aa;have H0:=z6 (LpM.start (P:=λj r=>DnS j M r (s.take 0)) h (by simp[DnS]));clear h ap af ae aJ hk a3 hw hN au aa;go_enter func149,ntmps149;go_wp2_with fail;go_loopg[11] s.length (λm vi wr=>∃(i:Nat) (D:Option Addr) (c:Nat) (j:List Nd) (y:List (Nat×Nat×Nat)) (r:List Nat) (Y:Nat->Prop),m=s.length-i/\vi=I J i/\i<=s.length/\Hid (LpM w q K R a5 E S (2 *Qx (s.take i)) (λj r=>DnS j M r (s.take i)) i D c wr j y r Y));case atStart=>exact⟨0,N,0,a5,[],[],S,by omega,rfl,by omega,H0⟩
 case round=>
  obtain⟨i,D,c,j,y,r,Y,rfl,rfl,hi,l⟩:=hrel;have b9:=l.out.kp.size;have aX:=zd l.out.box;have b0:wr.cell? ⟨w.heap.size,0,N⟩=some (.slice D i c):=z8 l.out.box 0;by_cases a0:i<s.length
  ·have aN:(i:Int)<s.length:=by omega
   have a2:i<vs.length:=by have:=am.out;omega
   obtain⟨g,aS,a8,aK⟩:=Jk al.out (by omega);subst aS;have ao:g≠q:=zcp a1.out (by decide) al.out rfl;have a7:wr.heap[g]?=w.heap[g]?:=l.out.kp.block g aK (by simpa using ao);obtain⟨t0,t1,t2⟩:=V1 s vs am.out i a0;have c0:wr.cell? ⟨g,i *3,N⟩=some (I .u8 s[i].ahead.toNat):=by rw[World.cell?_of_block (a:=⟨g,_,N⟩) a7,a8 _ (by omega)];exact t0
   have c1:wr.cell? ⟨g,i *3+1,N⟩=some (vs[i]'a2):=by rw[World.cell?_of_block (a:=⟨g,_,N⟩) a7,a8 _ (by omega)];exact t1
   have c2:wr.cell? ⟨g,i *3+2,N⟩=some (I .u8 s[i].behind.toNat):=by rw[World.cell?_of_block (a:=⟨g,_,N⟩) a7,a8 _ (by omega)];exact t2
   have a4:=zD.get aH.out i a0 a2;have aQ:=zj1 s i a0;have aP:=zaw s (i+1);have ak:Hid (∀X,Below wr.heap.size wr X->Calls prog 174 #[z9 q,QN s[i] (vs[i]'a2)] X (Mak q K R j (E++y) Y (2 *wtT s[i]) (λf n=>DnT f M n s[i]) X)):=z6 (λX U=>by have hu:=l.out.upTo U;have aY:=l.out.cnt;have aa:=ab.out;have b8:=aj.out;have bc:=HW.out;exact hT X q K R j (E++y) Y M A s[i] (vs[i]'a2) (l.out.mkr.below U) (aC.out.up a1.out hu) (Zk.kept (zcN a1.out hu hA) _ _ a4) hA (Nat.le_trans (KI s i a0) HK.out) (zbX aE.out i a0) (by omega) (by omega))
   have ay:Hid (∀X d f z n x o W va vc O,Below wr.heap.size wr X->x=((E++y)++z).getD n (0,0,0)->n<f.length->Mk d q K R f ((E++y)++z) o->Goes j f->f.length<=j.length+2 *wtT s[i]->DnT f M n s[i]->KpM [q] X.heap.size X d->GrS X Y o->W.ownsRow (w.heap.size+1) 226 1 (.slice (some ⟨va,0,N⟩) (i+1) vc) (i+1) (r.map (clV ((E++y)++z))++[zT x])->(d.alloc O).grownBy W (Value.slice D i c).ownBlock->((Value.slice D i c).ownBlock=some va\/va=d.heap.size+1)->Hid (LpM w q K R a5 E S (2 *Qx (s.take (i+1))) (λj r=>DnS j M r (s.take (i+1))) (i+1) (some ⟨va,0,N⟩) vc (W.setCell ⟨w.heap.size,0,N⟩ (.slice (some ⟨va,0,N⟩) (i+1) vc)) f (y++z) (r++[n]) o)):=z6 (λX d f z n x o W va vc O U hx hn B G L hd F Z aq H a6=>by
    have hC:=l.out.call a9 a1.out U B G L F Z (DnS.goes G _ l.out.ok) (l.out.lenLe B);rw[List.append_assoc]at hx aq;have hP:=LpM.put (P':=λj r=>DnS j M r (s.take (i+1))) hC a9 hx hn (by rw[List.take_succ_eq_append_getElem a0];exact hC.ok.snoc hd) aq H (by
     rcases a6 with e|e;·exact .inl e.symm
     ·exact .inr (by rw[e];simp[Value.ownBlock]))
    exact z6 (hP.wt (by omega)))
   have av:Hid (∀X d f z o,Below wr.heap.size wr X->Mk d q K R f ((E++y)++z) o->Goes j f->f.length<=j.length+2 *wtT s[i]->KpM [q] X.heap.size X d->GrS X Y o->d.heap[w.heap.size]?=some (zh (.slice D i c) 175)/\d.ownsRow (w.heap.size+1) 226 1 (.slice D i c) i (r.map (clV ((E++y)++z)))):=z6 (λX d f z o U B G L F Z=>by have hC:=l.out.call a9 a1.out U B G L F Z (DnS.goes G _ l.out.ok) (l.out.lenLe B);have hr:=hC.row;rw[<-List.append_assoc]at hr;exact⟨hC.box,hr⟩)
   obtain⟨tt,xx,ag⟩:∃t x,vs[i]'a2=.iface t x:=by
    cases aR:s[i]with
    |mk D p b=>rw[aR]at a4;simp only[Zk]at a4;exact zp.oneCell a4
   rw[ag]at c1;simp only[ag,QN]at ak;generalize aW:s[i]=T at *;have ai:Hid (some w.heap.size≠(Value.slice D i c).ownBlock):=z6 (λe=>by have:=(l.out.row.lt _ e.symm).1;omega);have ad:Hid (some wr.heap.size≠(Value.slice D i c).ownBlock):=z6 (λe=>Nat.lt_irrefl _ (l.out.row.lt _ e.symm).2);have aB:Hid (i+1<=maxLen):=by show _<=_;unfold maxLen;omega
   have b1:q≠wr.heap.size:=by omega
   generalize T.ahead=ah at *;generalize T.behind=be at *;clear a4 t0 t1 t2 ag aQ aP a8 a7 ao;go_wp2_with fail;have z0:Hid (∀d:World,KpM [q] ((wr.alloc (.cells #[I .u8 ah.toNat,.iface tt xx,I .u8 be.toNat] 249)).drew).heap.size ((wr.alloc (.cells #[I .u8 ah.toNat,.iface tt xx,I .u8 be.toNat] 249)).drew) d->d.heap[wr.heap.size]?=some (.cells #[I .u8 ah.toNat,.iface tt xx,I .u8 be.toNat] 249)):=z6 (λd F=>by rw[F.block wr.heap.size (by show _<(wr.alloc _).heap.size;simp) (by simp;omega)];exact zk _ _)
   have HN:Hid (∀(d W:World) (O:Obj),(d.alloc O).grownBy W (Value.slice D i c).ownBlock->d.heap[w.heap.size]?=some (zh (.slice D i c) 175)->W.heap[w.heap.size]?=some (zh (.slice D i c) 175)):=z6 (λd W O G hb=>by have L:=zd hb;rw[G.block _ (by simp;omega) ai.out,zm _ _ L];exact hb)
   have ba:wr.heap.size≠w.heap.size:=by omega
   have bb:w.heap.size≠wr.heap.size:=by omega
   have aF:Hid (∀X,Below wr.heap.size wr X->Calls prog 174 #[z9 q,.agg #[I .u8 ah.toNat,.iface tt xx,I .u8 be.toNat]] X λe V=>∃v,e=.returned v/\∃f z n x o,v=zT x/\x=((E++y)++z).getD n (0,0,0)/\n<f.length/\Mk V q K R f ((E++y)++z) o/\Goes j f/\f.length<=j.length+2 *wtT T/\DnT f M n T/\KpM [q] X.heap.size X V/\GrS X Y o):=z6 (λX U=>(ak.out X U).mono (by rintro e V⟨f,z,n,x,o,rfl,h⟩;exact⟨_,rfl,f,z,n,x,o,rfl,h⟩))
   go_region_law (first|(refine zcV (by rfl) 174 #[z9 q,.agg #[I .u8 ah.toNat,.iface tt xx,I .u8 be.toNat]] (by go_simp) (aF.out _ ((zc wr _).drew)) ?_;rintro _ d⟨f,z,n,x,o,rfl,hx,hn,B,G,L,hd,F,Z⟩;have HX:=z6 hx;have HC:=z6 (av.out _ d f z o ((zc wr _).drew) B G L F Z);have s1:=z8 HC.out.1 0;have q0:=z8 (z0.out d F) 0;have q1:=z8 (z0.out d F) 1;have q2:=z8 (z0.out d F) 2;have b2:=za HC.out.1;have b3:=za (z0.out d F);have aA:=z6 B;have HG:=z6 G;have HL:=z6 L;have HD:=z6 hd;have az:=z6 F;have aG:=z6 Z;have aD:=z6 hn;clear hx B G L hd F Z hn)|(refine step_append_lies _ (by rfl) _ _ _ (by rfl) (w.heap.size+1) 226 i0 _ 1 8 underlying175 aL aT aU aV (by rfl) (by decide) _ _ _ (by rfl) (HC.out.2.alloc _) ⟨d.heap.size,0,N⟩ 1 1 [zT x] (by rfl) (by rfl) (World.news_of_block (zk d _)) (by intro u hu;simp at hu;subst hu;rfl) (by decide) aB.out (by omega) (by simp;omega) (d.heap.size+1) (by simp) ?_;intro g2 aI w6 ar H a6 b4;have t1:=VA H s1 ai.out;have t2:=VA H q0 ad.out;have t3:=VA H q1 ad.out;have t4:=VA H q2 ad.out;have f1:=zi (HN.out _ _ _ H HC.out.1) 0;have b5:=za (HN.out _ _ _ H HC.out.1);have HF:=ay.out _ d f z n x o w6 g2 aI _ ((zc wr _).drew) HX.out aD.out aA.out HG.out HL.out HD.out az.out aG.out ar H a6;clear ar H a6));all_goals go_wp2_with fail
   all_goals
    go_roundg (s.length-(i+1));case measure=>omega
    case rel=>exact⟨i+1,_,_,_,_,_,_,rfl,by go_num,by omega,HF⟩
  ·have aN:¬(i:Int)<s.length:=by omega
   have aM:i=s.length:=by omega
   have k0:wr.cell? ⟨q,0,N⟩=some (z9 K):=z8 l.out.mkr.blk 0;have aZ:q<wr.heap.size:=by omega
   have aw:=z6 (l.out.seq aO a9 (by have:=l.out.cnt;have:=aj.out;have:=zaw s i;have:=ab.out;omega) (by omega));have ax:Hid (∀(V:World) (x:Nat×Nat×Nat) (o:Nat->Prop),Mk V q K R (j++[Nd.seq r]) (E++(y++[x])) o->KpM [q] w.heap.size w V->GrS w S o->Mak q K R a5 E S (2 *wtS s) (λj n=>∃r,j[n]?=some (.seq r)/\DnS j M r s) w (.returned (zT x)) V):=z6 (λV x o B h2 h3=>by have hc:=l.out.cnt;have au:=zaw s i;have aa:=ab.out;have a3:=l.out.ok;rw[aM,List.take_of_length_le (Nat.le_refl _)]at a3;refine⟨j++[Nd.seq r],y++[x],j.length,x,o,rfl,?_,by simp,B,l.out.goes.trans (Goes.app _ _),by simp;omega,⟨r,KO _ _,DnS.goes (Goes.app _ _) _ a3⟩,h2,h3⟩;rw[<-List.append_assoc,List.getD_eq_getElem?_getD,List.getElem?_append_right (by rw[l.out.mkr.len];exact Nat.le_refl _),l.out.mkr.len,Nat.sub_self];rfl)
   clear b0;go_wp2_with fail;refine aw.out.mono ?_;rintro _ w6⟨x,o,rfl,B,h2,h3⟩;have HZ:=z6 (ax.out w6 x o B h2 h3);clear B h2 h3;go_wp2_with fail;go_ret;exact HZ.out
theorem zjM(x:Value)(w:World):(Instr.typeAssert (.iface 319 x) 247 319 true).run P w=.ok (.tuple #[x,.bool true]) w:=by kernel_rfl
theorem zjJ(x:Value)(w:World):(Instr.typeAssert (.iface 321 x) 247 319 true).run P w=.ok (.tuple #[.agg #[.string ⟨#[]⟩],.bool false]) w:=by kernel_rfl
theorem zjI(x:Value)(w:World):(Instr.typeAssert (.iface 321 x) 247 321 true).run P w=.ok (.tuple #[x,.bool true]) w:=by kernel_rfl
theorem zjH(x:Value)(w:World):(Instr.typeAssert (.iface 345 x) 247 319 true).run P w=.ok (.tuple #[.agg #[.string ⟨#[]⟩],.bool false]) w:=by kernel_rfl
theorem zjG(x:Value)(w:World):(Instr.typeAssert (.iface 345 x) 247 321 true).run P w=.ok (.tuple #[.agg #[.slice N 0 0],.bool false]) w:=by kernel_rfl
theorem zjL(x:Value)(w:World):(Instr.typeAssert (.iface 296 x) 247 319 true).run P w=.ok (.tuple #[.agg #[.string ⟨#[]⟩],.bool false]) w:=by kernel_rfl
theorem zjK(x:Value)(w:World):(Instr.typeAssert (.iface 296 x) 247 321 true).run P w=.ok (.tuple #[.agg #[.slice N 0 0],.bool false]) w:=by kernel_rfl
theorem zgn(k:Nat)(q:∀k',k'<k->qv k'):zaL k:=by
 intro w K L M N G S z A p v h o g Y s f r t;have a6:∀(X:Fn) (first W:Array Value) (w:World),(Instr.makeFunc X first W).run prog w=.ok (.func X first W) w:=λ_ _ _ _=>rfl;have D:=z6 h.len;cases p with
 |name b=>simp only[zp]at g;obtain⟨rfl,a5⟩:=g;have a:=z6 (λO=>zgE (h.below (zc w O)) (by omega) z (o.below (zc w O)) b a5);have E:=Ui;clear s t q h o r f;go_enter func199,ntmps199;go_wp2_with fail;refine(a.out _).mono ?_;rintro _ i d;have m:=Qg.mak (wt:=2 *wtP (.name b)+1) (P:=λj n=>DnP j z n (.name b)) (zc w _) D.out (by simp only[DnP];exact KO _ _) (by omega) d;obtain⟨x,B,rfl,_,_,_⟩:=d;clear a;go_wp2_with fail;go_ret;exact m
 |lit b=>simp only[zp]at g;subst g;simp only[okP]at f;have a:=z6 (λO=>zfX (h.below (zc w O)) (by omega) b f.2);have E:=Uh;have F:=zjM;clear s t q h o r f;go_enter func199,ntmps199;go_wp2_with fail;refine(a.out _).mono ?_;rintro _ i d;have m:=Qg.mak (wt:=2 *wtP (.lit b)+1) (P:=λj n=>DnP j z n (.lit b)) (zc w _) D.out (by simp only[DnP];exact KO _ _) (by omega) d;obtain⟨x,B,rfl,_,_,_⟩:=d;clear a;go_wp2_with fail;go_ret;exact m
 |cls l=>simp only[zp]at g;obtain⟨u,rfl,J⟩:=g;obtain⟨R,U,rfl⟩:=zl J;simp only[okP]at f;have a:=z6 (λO=>zer (h.below (zc w O)) (by omega) (.slice R l.length U) l (Zv J (zc w O)) f);have E:=Ue;have F:=zjJ;have V:=zjI;have HP:Hid (∀(e:Ending) (i:World) (O:Obj),Qg K L M N G S (.cls l) (w.alloc O) e i->Mak K L M N G S (2 *wtP (.cls l)+1) (λj n=>DnP j z n (.cls l)) w e i):=z6 (λe i O d=>Qg.mak (zc w O) D.out (by simp only[DnP];exact KO _ _) (by omega) d);clear s t q h o r f J;generalize l.length=n at *;go_enter func199,ntmps199;go_wp2_with fail;refine(a.out _).mono ?_;rintro _ i d;have m:=HP.out _ _ _ d;obtain⟨x,B,rfl,_,_,_⟩:=d;clear a;go_wp2_with fail;go_ret;exact m
 |any=>simp only[zp]at g;subst g;have a:=z6 (ziM h (by omega));have E:=Uc;have F:=zjH;have V:=zjG;have a4:=Vn;clear s t q h o r f;go_enter func199,ntmps199;go_wp2_with fail;refine a.out.mono ?_;rintro _ i d;have m:=Qg.mak (wt:=2 *wtP .any+1) (P:=λj n=>DnP j z n .any) (Below.refl _ _) D.out (by simp only[DnP];exact KO _ _) (by omega) d;obtain⟨x,B,rfl,_,_,_⟩:=d;clear a;go_wp2_with fail;go_ret;exact m
 |group c=>
  simp only[zp]at g;obtain⟨u,us,rfl,H,a0⟩:=g;obtain⟨R,U,rfl⟩:=zl H.1;have Z:Qt c<k:=by simp only[Y6]at s;omega
  simp only[wtP]at t r;simp only[okP]at f;have a:=z6 (λO=>q _ Z (w.alloc O) K L M N G S z A c (.slice R c.length U) (h.below (zc w O)) (o.below (zc w O)) (Zt.kept (ZF (zc w O)) ⟨us,H,a0⟩) Y (Nat.le_refl _) f (by omega) (by omega));have E:=Uf;have F:=zjL;have V:=zjK;have a4:=Vo;simp only[wtP];generalize c.length=n at *;clear s t q h o r f H a0 Z Y;go_enter func199,ntmps199;go_wp2_with fail;refine(a.out _).mono ?_;rintro _ i⟨N1,y,n,x,B,rfl,hx,hn,h1,hg,hl,hd,hK,hS⟩;have HX:=z6 hx;clear a hx;go_wp2_with fail;go_ret;exact⟨N1,y,n,x,B,rfl,HX.out,hn,h1,hg,by omega,hd,hK.alloc,(GrS.refl _ _).below hS (zc _ _)⟩
theorem zgm(k:Nat)(hT:zaM k):qv k:=by
 intro w p F H a3 z S G A s u h am hs hA hk a2 hN hw;obtain⟨vs,⟨a8,aH⟩,ab⟩:=hs;obtain⟨ua,uc,rfl⟩:=zl a8;have b3:∀(fn:Fn) (first ai:Array Value) (w:World),(Instr.makeFunc fn first ai).run prog w=.ok (.func fn first ai) w:=λ_ _ _ _=>rfl;have aF:Hid (s.length=vs.length):=zA.length ab;obtain⟨i0,aL,aT,aU,aV⟩:=info_parts infoExprF;have a9:s≠[]:=by rintro rfl;simp only[wtC]at hw;omega
 have ap:=q9 s;have a6:=zcZ s a9;have b4:s.length<=500000:=by omega
 have b6:0<s.length:=List.length_pos_iff.2 a9;have a5:=zd h.blk;have aP:=h.mlt;have a0:=z6 h.blk;have az:=z6 am;have aE:=z6 ab;have ah:=z6 a8;have HK:=z6 hk;have aB:=z6 a2;have HW:=z6 hw;have af:=z6 hN;have a7:=z6 a6;have H0:=z6 (LpM.start (P:=λf d=>DnC f G d (s.take 0)) h (by simp[DnC]));clear h am ab a8 aH hk a2 hw hN ap a6 a9;go_enter func119,ntmps119;go_wp2_with fail;go_loopg[10] s.length (λm vi wr=>∃(i:Nat) (B:Option Addr) (c:Nat) (f:List Nd) (y:List (Nat×Nat×Nat)) (d:List Nat) (R:Nat->Prop),m=s.length-i/\vi=I J i/\i<=s.length/\Hid (LpM w p F H a3 z S (2 *(Qa (s.take i)-i)) (λf d=>DnC f G d (s.take i)) i B c wr f y d R));case atStart=>exact⟨0,N,0,a3,[],[],S,by omega,rfl,by omega,H0⟩
 case round=>
  obtain⟨i,B,c,f,y,d,R,rfl,rfl,hi,l⟩:=hrel;have b7:=l.out.kp.size;have aW:=zd l.out.box;have b0:wr.cell? ⟨w.heap.size,0,N⟩=some (.slice B i c):=z8 l.out.box 0;by_cases a1:i<s.length
  ·have aO:(i:Int)<s.length:=by omega
   have Y:i<vs.length:=by have:=aF.out;omega
   obtain⟨g,aS,ak,aK⟩:=Jk ah.out (by omega);subst aS;have al:g≠p:=zcp a0.out (by decide) ah.out rfl;have aj:wr.heap[g]?=w.heap[g]?:=l.out.kp.block g aK (by simpa using al);have c0:wr.cell? ⟨g,i,N⟩=some (vs[i]'Y):=by rw[World.cell?_of_block (a:=⟨g,_,N⟩) aj,ak _ (by omega)];exact List.getElem?_eq_getElem Y
   have aa:=zA.get aE.out i a1 Y;have aR:=zj0 s i a1;have aQ:=zav s (i+1);have aN:i<=Qa (s.take i):=by have:=q9 (s.take i);rw[List.length_take]at this;omega
   have ag:Hid (∀X,Below wr.heap.size wr X->Calls prog 149 #[z9 p,vs[i]'Y] X (Mak p F H f (z++y) R (2 *wtS s[i]) (λb n=>∃d,b[n]?=some (.seq d)/\DnS b G d s[i]) X)):=z6 (λX K=>by have hu:=l.out.upTo K;have aX:=l.out.cnt;have a6:=a7.out;have b5:=af.out;have b8:=HW.out;exact hT X p F H f (z++y) R G A s[i] (vs[i]'Y) (l.out.mkr.below K) (az.out.up a0.out hu) (QX.kept (zcN a0.out hu hA) aa) hA (Nat.le_trans (KH s i a1) HK.out) (zbW aB.out i a1) (by omega) (by omega))
   have av:Hid (∀X o b q n x j M Z vc O,Below wr.heap.size wr X->x=((z++y)++q).getD n (0,0,0)->n<b.length->Mk o p F H b ((z++y)++q) j->Goes f b->b.length<=f.length+2 *wtS s[i]->(∃d,b[n]?=some (.seq d)/\DnS b G d s[i])->KpM [p] X.heap.size X o->GrS X R j->M.ownsRow (w.heap.size+1) 226 1 (.slice (some ⟨Z,0,N⟩) (i+1) vc) (i+1) (d.map (clV ((z++y)++q))++[zT x])->(o.alloc O).grownBy M (Value.slice B i c).ownBlock->((Value.slice B i c).ownBlock=some Z\/Z=o.heap.size+1)->Hid (LpM w p F H a3 z S (2 *(Qa (s.take (i+1))-(i+1))) (λf d=>DnC f G d (s.take (i+1))) (i+1) (some ⟨Z,0,N⟩) vc (M.setCell ⟨w.heap.size,0,N⟩ (.slice (some ⟨Z,0,N⟩) (i+1) vc)) b (y++q) (d++[n]) j)):=z6 (λX o b q n x j M Z vc O K hx hn r D E hd U V an W a4=>by
    have hC:=l.out.call a5 a0.out K r D E U V (DnC.goes D _ l.out.ok) (l.out.lenLe r);rw[List.append_assoc]at hx an;obtain⟨kq,aI,aJ⟩:=hd;have hP:=LpM.put (P':=λf d=>DnC f G d (s.take (i+1))) hC a5 hx hn (by rw[List.take_succ_eq_append_getElem a1];exact hC.ok.snoc aI aJ) an W (by
     rcases a4 with e|e;·exact .inl e.symm
     ·exact .inr (by rw[e];simp[Value.ownBlock]))
    exact z6 (hP.wt (by omega)))
   have aq:Hid (∀X o b q j,Below wr.heap.size wr X->Mk o p F H b ((z++y)++q) j->Goes f b->b.length<=f.length+2 *wtS s[i]->KpM [p] X.heap.size X o->GrS X R j->o.heap[w.heap.size]?=some (zh (.slice B i c) 175)/\o.ownsRow (w.heap.size+1) 226 1 (.slice B i c) i (d.map (clV ((z++y)++q)))):=z6 (λX o b q j K r D E U V=>by have hC:=l.out.call a5 a0.out K r D E U V (DnC.goes D _ l.out.ok) (l.out.lenLe r);have hr:=hC.row;rw[<-List.append_assoc]at hr;exact⟨hC.box,hr⟩)
   obtain⟨tt,xx,ad⟩:∃t x,vs[i]'Y=.slice t s[i].length x:=by obtain⟨_,hr,_⟩:=aa;exact zl hr.1
   rw[ad]at c0;rw[ad]at ag;have ae:Hid (some w.heap.size≠(Value.slice B i c).ownBlock):=z6 (λe=>by have:=(l.out.row.lt _ e.symm).1;omega);have ay:Hid (i+1<=maxLen):=by show _<=_;unfold maxLen;omega
   have aY:p≠wr.heap.size:=by omega
   generalize s[i].length=cl at *;clear aa ad aR aQ ak aj al;go_wp2_with fail;have HN:Hid (∀(o M:World) (O:Obj),(o.alloc O).grownBy M (Value.slice B i c).ownBlock->o.heap[w.heap.size]?=some (zh (.slice B i c) 175)->M.heap[w.heap.size]?=some (zh (.slice B i c) 175)):=z6 (λo M O D hb=>by have E:=zd hb;rw[D.block _ (by simp;omega) ae.out,zm _ _ E];exact hb)
   have aC:Hid (∀X,Below wr.heap.size wr X->Calls prog 149 #[z9 p,.slice tt cl xx] X λe L=>∃v,e=.returned v/\∃b q n x j,v=zT x/\x=((z++y)++q).getD n (0,0,0)/\n<b.length/\Mk L p F H b ((z++y)++q) j/\Goes f b/\b.length<=f.length+2 *wtS s[i]/\(∃d,b[n]?=some (.seq d)/\DnS b G d s[i])/\KpM [p] X.heap.size X L/\GrS X R j):=z6 (λX K=>(ag.out X K).mono (by rintro e L⟨b,q,n,x,j,rfl,h⟩;exact⟨_,rfl,b,q,n,x,j,rfl,h⟩))
   go_region_law (first|(refine zcV (by rfl) 149 #[z9 p,.slice tt cl xx] (by go_simp) (aC.out _ ((Below.refl wr.heap.size wr).drew)) ?_;rintro _ o⟨b,q,n,x,j,rfl,hx,hn,r,D,E,hd,U,V⟩;have HX:=z6 hx;have HC:=z6 (aq.out _ o b q j ((Below.refl wr.heap.size wr).drew) r D E U V);have s1:=z8 HC.out.1 0;have aZ:=za HC.out.1;have ax:=z6 r;have HG:=z6 D;have HL:=z6 E;have HD:=z6 hd;have aw:=z6 U;have aD:=z6 V;have aA:=z6 hn;clear hx r D E hd U V hn)|(refine step_append_lies _ (by rfl) _ _ _ (by rfl) (w.heap.size+1) 226 i0 _ 1 8 underlying175 aL aT aU aV (by rfl) (by decide) _ _ _ (by rfl) (HC.out.2.alloc _) ⟨o.heap.size,0,N⟩ 1 1 [zT x] (by rfl) (by rfl) (World.news_of_block (zk o _)) (by intro u hu;simp at hu;subst hu;rfl) (by decide) ay.out (by omega) (by simp;omega) (o.heap.size+1) (by simp) ?_;intro g2 aG w6 ao W a4 b1;have t1:=VA W s1 ae.out;have f1:=zi (HN.out _ _ _ W HC.out.1) 0;have b2:=za (HN.out _ _ _ W HC.out.1);have HF:=av.out _ o b q n x j w6 g2 aG _ ((Below.refl wr.heap.size wr).drew) HX.out aA.out ax.out HG.out HL.out HD.out aw.out aD.out ao W a4;clear ao W a4));all_goals go_wp2_with fail
   all_goals
    go_roundg (s.length-(i+1));case measure=>omega
    case rel=>exact⟨i+1,_,_,_,_,_,_,rfl,by go_num,by omega,HF⟩
  ·have aO:¬(i:Int)<s.length:=by omega
   have aM:i=s.length:=by omega
   have ar:=z6 (l.out.choice aP a5 (by have:=l.out.cnt;have:=af.out;have:=zav s i;have:=a7.out;omega) (by omega));have au:Hid (∀(L:World) (x:Nat×Nat×Nat) (j:Nat->Prop),Mk L p F H (f++[Nd.choice d]) (z++(y++[x])) j->KpM [p] w.heap.size w L->GrS w S j->Mak p F H a3 z S (2 *wtC s) (λf n=>DnP f G n (.group s)) w (.returned (zT x)) L):=z6 (λL x j r h2 h3=>by
    have hc:=l.out.cnt;have ap:=zav s i;have aN:i<=Qa (s.take i):=by have:=q9 (s.take i);rw[List.length_take]at this;omega
    have a6:=a7.out;have a2:=l.out.ok;rw[aM,List.take_of_length_le (Nat.le_refl _)]at a2;refine⟨f++[Nd.choice d],y++[x],f.length,x,j,rfl,?_,by simp,r,l.out.goes.trans (Goes.app _ _),by simp;omega,?_,h2,h3⟩;·rw[<-List.append_assoc,List.getD_eq_getElem?_getD,List.getElem?_append_right (by rw[l.out.mkr.len];exact Nat.le_refl _),l.out.mkr.len,Nat.sub_self];rfl
    ·simp only[DnP];exact⟨d,KO _ _,DnC.goes (Goes.app _ _) _ a2⟩)
   clear b0;go_wp2_with fail;refine ar.out.mono ?_;rintro _ w6⟨x,j,rfl,r,h2,h3⟩;have HZ:=z6 (au.out w6 x j r h2 h3);clear r h2 h3;go_wp2_with fail;go_ret;exact HZ.out
theorem zgo(k:Nat):qv k:=by
 induction k using Nat.strongRecOn with
 |ind k a=>exact zgm k (ziE k (zj8 k (zfx k (zgn k a))))
theorem zek(w:World)(a e b:Nat)(N:List Nd)(d:List (Nat×Nat×Nat))(S:Nat->Prop)(f:List z7)(A:Nat->Prop)(c:List (List Term))(u:Value)(h:Mk w a e b N d S)(m:Zd w b f)(l:Zt w A c u)(j:∀g,A g->g≠a)(o:okC c)(k:N.length+2 *wtC c<=100000000)(p:wtC c<=500000):Calls P 119 #[z9 a,u] w (Mak a e b N d S (2 *wtC c) (λi n=>DnP i f n (.group c)) w):=zgo (Qt c) w a e b N d S f A c u h m l j (Nat.le_refl _) o k p
def Jc:List ze->Nat
 |[]=>0
 |r::g=>wtC r.choice+Jc g
theorem zau:∀(a b:List ze),Jc (a++b)=Jc a+Jc b
 |[],b=>by simp[Jc]
 |r::a,b=>by have:=zau a b;simp only[List.cons_append,Jc];omega
theorem zcX(g:List ze)(i:Nat)(h:i<g.length):Jc (g.take (i+1))=Jc (g.take i)+wtC g[i].choice:=by rw[List.take_succ_eq_append_getElem h,zau];simp[Jc]
theorem zcW:∀(g:List ze),(∀r∈g,wtC r.choice<=500000)->Jc g<=g.length *500000
 |[],_=>by simp[Jc]
 |r::g,h=>by have b:=zcW g (λx a=>h x (List.mem_cons_of_mem _ a));have c:=h r (List.mem_cons_self ..);simp only[Jc,List.length_cons];omega
theorem KpM.belowOf{a:List Nat}{B:Nat}{w c:World}(h:KpM a w.heap.size w c)(e:∀b∈a,B<=b)(f:B<=w.heap.size):Below B w c:=⟨h.os,h.tape,h.output,h.size,λk g=>h.block k (by omega) (λd=>by have:=e k d;omega)⟩
structure MkL(w:World)(kb mb nb rb:Nat)(g:List ze)(names:List z7)(i:Nat)(wr:World)(N:List Nd)(bx:List (Nat×Nat×Nat))(S:Nat->Prop)(rs:List Nat):Prop where
 mkr:Mk wr kb mb nb N bx S
 cnt:N.length<=2 *Jc (g.take i)
 len:rs.length=i
 dn:∀j (h:j<rs.length) (h2:j<g.length),DnP N names rs[j] (.group g[j].choice)
 lt:∀k∈rs,k<N.length
 mat:wr.heap[mb]?=some (Zz (.slice (some ⟨rb,0,none⟩) g.length g.length) ⟨#[]⟩ (.map none) .nilIface)
 row:∃cur:Array Value,wr.heap[rb]?=some (.cells cur 226 (0,0))/\cur.size=g.length/\∀j (h:j<rs.length),cur[j]?=some (clV bx rs[j])
 nr:¬S rb
 nm:¬S mb
 bel:Below w.heap.size w wr
 gr:∀b,S b->w.heap.size<=b\/QA w b
theorem MkL.next{w wr X o:World}{m d L c:Nat}{g:List ze}{K:List z7}{i:Nat}{t f:List Nd}{u y:List (Nat×Nat×Nat)}{S s:Nat->Prop}{A:List Nat}{n:Nat}{x:Nat×Nat×Nat}(h:MkL w m d L c g K i wr t u S A)(hi:i<g.length)(a2:w.heap.size<=m)(ag:w.heap.size<=d)(a9:w.heap.size<=c)(a5:c≠d)(a3:m≠c)(af:m≠d)(l:Below wr.heap.size wr X)(hx:x=(u++y).getD n (0,0,0))(hn:n<f.length)(O:Mk o m d L f (u++y) s)(hg:Goes t f)(z:f.length<=t.length+2 *wtC g[i].choice)(hd:DnP f K n (.group g[i].choice))(v:KpM [m] X.heap.size X o)(E:GrS X S s):MkL w m d L c g K (i+1) (o.setCell ⟨c,i,N⟩ (zT x)) f (u++y) s (A++[n]):=by
 have ad:=l.size;have ab:=v.size;have R:=h.len;have aa:=h.bel.size;obtain⟨M,G,a1,a0⟩:=h.row;have W:=zd G;have U:=zd h.mat;have ae:=zd h.mkr.blk;have a8:o.heap[c]?=some (.cells M 226 (0,0)):=by rw[v.block c (by omega) (by simp;omega),l.block c W];exact G
 have a4:o.heap[d]?=some (Zz (.slice (some ⟨c,0,N⟩) g.length g.length) ⟨#[]⟩ (.map N) .nilIface):=by rw[v.block d (by omega) (by simp;omega),l.block d U];exact h.mat
 have a6:t.length<=f.length:=by have e1:=h.mkr.len;have Y:=O.len;rw[List.length_append]at Y;omega
 have V:¬s c:=by
  intro J;rcases E _ J with a|a|⟨D,a⟩;·exact h.nr a
  ·omega
  ·rw[l.block c W,G]at a;simp at a
 have a7:¬s d:=by
  intro J;rcases E _ J with a|a|⟨D,a⟩;·exact h.nm a
  ·omega
  ·rw[l.block d U,h.mat]at a;simp at a
 have ah:(o.setCell ⟨c,i,N⟩ (zT x)).heap.size=o.heap.size:=by simp[World.setCell]
 refine⟨O.same (by omega) (λb F=>Below.heap_setCell _ _ _ _ (λe=>by subst e;exact V F)) (Below.heap_setCell _ _ _ _ (by simpa using a3)),?_,by simp[R],?_,?_,?_,?_,V,a7,?_,?_⟩;·have:=h.cnt;rw[zcX g i hi];omega
 ·intro j H Z;by_cases q:j<A.length;·rw[List.getElem_append_left q];exact DnP.goes hg _ (h.dn j q Z)
  ·have:j=i:=by simp at H;omega
   subst this;rw[List.getElem_append_right (by omega)];simpa using hd
 ·intro k r;rcases List.mem_append.1 r with r|r;·exact Nat.lt_of_lt_of_le (h.lt k r) a6
  ·simp at r;subst r;exact hn
 ·rw[Below.heap_setCell _ _ _ _ (by simpa usingλe:d=c=>a5 e.symm)];exact a4
 ·refine⟨M.setIfInBounds i (zT x),by rw[zo a8],by simpa using a1,?_⟩;intro j H;by_cases q:j<A.length;·rw[List.getElem_append_left q,Array.getElem?_setIfInBounds_ne (by omega),a0 j q,Y5 (by rw[h.mkr.len];exact h.lt _ (List.getElem_mem q))]
  ·have:j=i:=by simp at H;omega
   subst this;rw[List.getElem_append_right (by omega),Array.getElem?_setIfInBounds_self_of_lt (by omega)];simp[clV,hx,R]
 ·refine(h.bel.trans (l.mono aa)).trans ((v.belowOf (B:=w.heap.size) (by simpa using a2) (by omega)).trans ?_);exact(Below.refl _ _).setCell (p:=⟨c,i,N⟩) a9 _
 ·intro b F;rcases E _ F with a|a|⟨D,a⟩;·exact h.gr b a
  ·exact .inl (by omega)
  ·rcases Nat.lt_or_ge b w.heap.size with z|z;·exact .inr ⟨D,by rw[<-h.bel.block b z, <-l.block b (by omega)];exact a⟩
   ·exact .inl z
structure Jv(w:World)(mb:Nat)(N:List Nd)(bx:List (Nat×Nat×Nat))(rules:List Nat)(vr:Value)(S:Nat->Prop):Prop where
 nm:¬S mb
 lt:∀b,S b->b<w.heap.size
 mlt:mb<w.heap.size
 mde:∀w':World,w.heap.size<=w'.heap.size->(∀b,S b->w'.heap[b]?=w.heap[b]?)->(∃sv tv nv,w'.heap[mb]?=some (.cells #[vr,sv,tv,nv] 177 (0,0)))->Mde w' mb N bx rules vr
theorem MkL.mat'{w wr:World}{D f F a:Nat}{g:List ze}{E:List z7}{i:List Nd}{k:List (Nat×Nat×Nat)}{S:Nat->Prop}{p:List Nat}(h:MkL w D f F a g E g.length wr i k S p)(m:a≠f):Jv wr f i k p (.slice (some ⟨a,0,N⟩) g.length g.length) (λb=>S b\/b=a):=by
 obtain⟨H,e,J,x⟩:=h.row;refine⟨?_,?_,zd h.mat,?_⟩
 ·rintro(c|c);·exact h.nm c
  ·exact m c.symm
 ·rintro b(c|rfl);·exact h.mkr.lt b c
  ·exact zd e
 ·intro G o l z;have v:=h.mkr.clo G o (λb u=>l b (.inl u));refine⟨λn d A=> ?_,?_,z⟩;·obtain⟨_,B,q,r,s,t⟩:=v n d A;exact⟨B,q,r,s,t⟩
  ·refine⟨a,g.length,by rw[h.len],Nat.lt_of_lt_of_le (zd e) o,m,λj y=> ?_⟩;simp only[World.cell?];rw[l a (.inr rfl),e];exact x j y
end
end Go.Proofs.YtiganlkabilblaaGreatDoor
