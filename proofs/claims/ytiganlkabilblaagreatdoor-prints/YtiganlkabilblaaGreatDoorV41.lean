import Derived.Test.YtiganlkabilblaaGreatDoorV40
import Derived.Test.YtiganlkabilblaaGreatDoorV28
import Derived.Test.YtiganlkabilblaaGreatDoorV08
import Derived.Test.YtiganlkabilblaaGreatDoorV38
import Derived.Test.YtiganlkabilblaaGreatDoorV30
set_option linter.all false
set_option maxHeartbeats 64000000
set_option maxRecDepth 100000
namespace Go.Proofs.YtiganlkabilblaaGreatDoor
open Tryz
open Tryz renaming prog->P
open Option renaming some->S,none->N
open Value renaming int->I
open IntKind renaming i64->J
section
open Go.RowKit
attribute [local go_sem ↓] Go.wp_at_zero Go.wp_at_succ
theorem Zo.errNe{l:List UInt8}{a p:Nat}(h:Zo l (.error (a,p))):a≠0:=by
 cases h with
 |text h=>exact zce h|rules _ h=>cases h<;>simp
theorem zq9(s:ByteArray)(w:World)(M:s.size<=maxLen)(v:QD w):Calls P 17 #[.string s] w λe R=>Below w.heap.size w R/\∃i,Zo s.data.toList i/\match i with| .ok (g,_)=>e=.returned (.tuple #[.string ⟨(prG g).toArray⟩,I J 0])| .error (f,_)=>e=.returned (.tuple #[.string ⟨#[]⟩,I J f]):=by
 have A:=zhC s w M;have D:Hid (QD w):=v;clear v;go_enter func17,ntmps17;go_wp2_with fail;refine A.mono ?_;rintro e b⟨i,t,h,n⟩;have m:Hid (Below w.heap.size w b):=h;have o:=h.size;have l:Hid (Zo s.data.toList i):=t;clear A t h;cases i with
 |error x=>
  obtain⟨f,p⟩:=x;have d:=λO=>zjf f p (b.alloc O) (D.out.below (m.out.alloc o O));have V:=l.out.errNe;have X:¬(f:Int)=0:=by omega
  simp only[zS]at n d;subst n;go_wp2_with fail;refine(d _).mono ?_;rintro e j⟨rfl,c⟩;have k:Hid (Below w.heap.size w j):=(m.out.alloc o _).trans (c.mono (by simp;omega));clear d c;go_wp2_with fail;go_ret2;exact⟨k.out,.error (f,p),l.out,rfl⟩
 |ok y=>obtain⟨g,E⟩:=y;obtain⟨K,L,a,G,Y,U,rfl,r,H⟩:=n;have d:=λO=>zjg (b.alloc O);have z:=λ(W:World) (h:Below b.heap.size b W)=>zpV W (w.heap.size<= ·) g a G (r.kept (ZF h)) l.out.gok L;have F:=z6 z;clear K r H z;simp only[zI];go_wp2_with fail;refine(d _).mono ?_;rintro e j⟨rfl,c⟩;have N:=c.size;simp at N;have q:Hid (Below b.heap.size b j):=(zc _ _).trans (c.mono (by simp));have k:Hid (Below w.heap.size w j):=m.out.trans (q.out.mono o);clear d c;go_wp2_with fail;refine(F.out j q.out).mono ?_;rintro _ Z⟨rfl,u⟩;have B:=z6 (k.out.trans (u.mono k.out.size));clear u;go_wp2_with fail;go_ret2;exact⟨B.out,.ok (g,E),l.out,rfl⟩
theorem zu7(s:ByteArray)(w:World)(B:s.size<=maxLen)(t:QD w):Calls P 4 #[.string s] w λe H=>e=.returned (.bool true)/\Below w.heap.size w H:=by
 have z:=zq9 s w B t;have u:=z6 t;clear t;go_enter func4,ntmps4;go_wp2_with fail;refine z.mono ?_;rintro e J⟨y,F,q,m⟩;obtain⟨r,A⟩:∃r,Zs s.data.toList r:=by
  cases q with
  |text h=>exact⟨_,h⟩|rules h _=>exact⟨_,h⟩|ok h _=>exact⟨_,h⟩
 have n:=zuh s J B r A;have l:=z6 y;have v:=z6 q;clear z y q A;cases F with
 |error x=>obtain⟨L,p⟩:=x;simp only[]at m;subst m;go_wp2_with fail;refine n.mono ?_;rintro D k⟨f,G,d,a⟩;have:=v.out.det d;subst this;simp only[]at a;obtain⟨_,a⟩:=a;subst a;have b:Below w.heap.size w k:=l.out.trans (f.mono l.out.size);have j:=zsJ k (u.out.below b);have c:=z6 b;clear n d f b;go_wp2_with fail;refine j.mono ?_;rintro _ K⟨rfl,i⟩;have o:=z6 (c.out.trans (i.mono c.out.size));clear j i;go_wp2_with fail;go_ret;exact⟨by simp,o.out⟩
 |ok x=>obtain⟨g,E⟩:=x;simp only[]at m;subst m;go_wp2_with fail;refine n.mono ?_;rintro D k⟨f,G,d,a⟩;have:=v.out.det d;subst this;simp only[]at a;subst a;have b:Below w.heap.size w k:=l.out.trans (f.mono l.out.size);have j:=zsJ k (u.out.below b);have c:=z6 b;clear n d f b;generalize prG g=Z at *;go_wp2_with fail;refine j.mono ?_;rintro _ K⟨rfl,i⟩;have o:=z6 (c.out.trans (i.mono c.out.size));clear j i;go_wp2_with fail;go_ret;exact⟨by simp,o.out⟩
theorem Jv.same{w w':World}{e:Nat}{N:List Nd}{d:List (Nat×Nat×Nat)}{f:List Nat}{g:Value}{S:Nat->Prop}(h:Jv w e N d f g S)(c:w.heap.size<=w'.heap.size)(l:∀b,S b->w'.heap[b]?=w.heap[b]?):Jv w' e N d f g S:=⟨h.nm,λb a=>Nat.lt_of_lt_of_le (h.lt b a) c,Nat.lt_of_lt_of_le h.mlt c,λm i j k=>h.mde m (Nat.le_trans c i) (λb a=>(j b a).trans (l b a)) k⟩
theorem Jv.below{w w':World}{d:Nat}{N:List Nd}{a:List (Nat×Nat×Nat)}{e:List Nat}{f:Value}{S:Nat->Prop}(h:Jv w d N a e f S)(c:Below w.heap.size w w'):Jv w' d N a e f S:=h.same c.size (λb g=>c.block b (h.lt b g))
theorem zgB{w:World}{a:Nat}{j:List Nd}{n:List (Nat×Nat×Nat)}{c:List Nat}{d:Value}{S:Nat->Prop}{g:List ze}{s z:ByteArray}{A:Value}(h:Jv w a j n c d S)(m:w.heap[a]?=some (Zz d z A .nilIface))(l:DnR j c g)(v:0<g.length)(B:g.length<=20)(y:s.size<=1000000)(o:Out)(x:Ev g s.data.toList (.C g[0].choice) 0 o):Calls P 60 #[z9 a,.string s] w λe i=>e=.returned (.tuple #[J1 0 0 o,.bool o.isSome])/\i.heap[a]?=some (Zz d ⟨#[]⟩ (.map N) .nilIface)/\Jv i a j n c d S/\KpM [a] w.heap.size w i:=by
 have D:=l.1;have q:0<c.length:=by omega
 have hd:=l.2 0 v q;obtain⟨f,u⟩:=(Ev.pgroup x).simN l c[0] hd;have M:=h.mde w (Nat.le_refl _) (λ_ _=>rfl) ⟨_,_,_,m⟩;refine(zj4 M (by omega) y w ⟨Nat.le_refl _,λ_ _ _=>rfl,zd m,m⟩ f c[0] o (List.getElem?_eq_getElem q) u).mono ?_;rintro e i⟨r,t,k⟩;refine⟨r,t.blk,h.same k.size (λb p=> ?_),k⟩;exact k.block b (h.lt b p) (by simp only[List.mem_singleton];rintro rfl;exact h.nm p)
structure qx(B:Nat)(g:List ze)(w0 w':World)(mb:Nat)(N:List Nd)(bx:List (Nat×Nat×Nat))(rs:List Nat)(vr:Value)(S:Nat->Prop):Prop where
 ted:Jv w' mb N bx rs vr S
 blk:w'.heap[mb]?=some (Zz vr ⟨#[]⟩ (.map none) .nilIface)
 dn:DnR N rs g
 mge:B<=mb
 gr:∀b,S b->B<=b\/QA w0 b
def zaI(t:List UInt8)(w:World)(e:Ending)(c:World):Prop:=Below w.heap.size w c/\∃b,Zo t b/\match b with| .error (h,_)=>e=.returned (.tuple #[.pointer N,I J h])| .ok (g,_)=>g.length<=20/\∃a d f i j S,e=.returned (.tuple #[z9 a,I J 0])/\qx w.heap.size g w c a d f i j S
theorem zgl(s:ByteArray)(w:World)(hs:s.size<=maxLen)(L:QD w):Calls P 58 #[.string s] w λe w'=>zaI s.data.toList w e w':=by
 have U:=zhC s w hs;have HG:Hid (QD w):=L;clear L;go_enter func58,ntmps58;go_wp2_with fail;refine U.mono ?_;rintro e c⟨Z,K,d,q⟩;have l:Hid (Below w.heap.size w c):=d;have u:=d.size;have k:Hid (Zo s.data.toList Z):=K;clear U K d;cases Z with
 |error x=>
  obtain⟨m,Y⟩:=x;have i:=λO=>zjf m Y (c.alloc O) (HG.out.below (l.out.alloc u O));have h0:=k.out.errNe;have o:¬(m:Int)=0:=by omega
  simp only[zS]at q i;subst q;go_wp2_with fail;refine(i _).mono ?_;rintro e j⟨rfl,h⟩;have f:Hid (Below w.heap.size w j):=(l.out.alloc u _).trans (h.mono (by simp;omega));clear i h;go_wp2_with fail;go_ret2;exact⟨f.out,.error (m,Y),k.out,rfl⟩
 |ok y=>
  obtain⟨g,E⟩:=y;obtain⟨a2,M,a,cp,X,eb,rfl,H,G⟩:=q;have i:=λO=>zjg (c.alloc O);have R:=λ(W:World) (d:Below c.heap.size c W)=>zgp W (w.heap.size<= ·) g a cp X (H.kept (ZF d)) (G.map.below d) k.out.gok (λr hr=>(k.out.ok' r hr).1) M;have a0:=z6 R;clear a2 H G R;simp only[zI];go_wp2_with fail;refine(i _).mono ?_;rintro e j⟨rfl,h⟩;have a3:=h.size;simp at a3;have f0:j.cell? ⟨c.heap.size,0,N⟩=some (.map (some X)):=by rw[h.cell (p:=⟨c.heap.size,0,N⟩) (by simp)];exact z8 (zk c _) 0
  have v:Hid (Below c.heap.size c j):=(zc _ _).trans (h.mono (by simp));have f:Hid (Below w.heap.size w j):=l.out.trans (v.out.mono u);clear i h;go_wp2_with fail;refine(a0.out j v.out).mono ?_;rintro _ w3⟨V,a1,bx,rs,vr,S,rfl,o,z,A,B,D,F⟩;have HZ:Hid (zaI s.data.toList w (.returned (.tuple #[z9 V,I J 0])) w3):=z6 ⟨f.out.trans (B.mono f.out.size),.ok (g,E),k.out,M,V,a1,bx,rs,vr,S,rfl,o,z,A,Nat.le_trans f.out.size D,λb d=>by
   rcases F b d with n|⟨cu,n⟩;·exact .inl (Nat.le_trans f.out.size n)
   ·rcases Nat.lt_or_ge b w.heap.size with t|t;·exact .inr ⟨cu,by rw[<-f.out.block b t];exact n⟩
    ·exact .inl t⟩
  clear o z A B D F;go_wp2_with fail;go_ret2;exact HZ.out
theorem zjw(o:Out):∃(c:Int) (a:Value),J1 0 0 o=.agg #[I J 0,I J 0,I J c,a]/\(a=.nilIface\/∃t v,a=.iface t v):=by
 cases o with
 |none=>exact⟨0,.nilIface,rfl,.inl rfl⟩|some x=>exact⟨x.1,ntV x.2,rfl,QV x.2⟩
def zko(t:List UInt8)(s:ByteArray)(w:World)(e:Ending)(c:World):Prop:=Below w.heap.size w c/\∃b,Zo t b/\match b with| .error (a,_)=>a≠0/\e=.returned (.tuple #[J1 0 0 N,.bool false,I J a])| .ok (g,_)=>g.length<=20/\if 200<s.size then e=.returned (.tuple #[J1 0 0 N,.bool false,I J 1])else∃o,(∀h:0<g.length,Ev g s.data.toList (.C g[0].choice) 0 o)/\e=.returned (.tuple #[J1 0 0 o,.bool o.isSome,I J 0])
theorem zlq{c:Func}{p u u2:Tmp}{d:TypeId}(h:c.results=#[.cell p d,.tmp u,.tmp u2])(b:Array Value)(P:Program)(w:World):(results c b).run P w=((asAddr (b.getD p undef)).run P w).andThen λa e=>((loadVar d a).run P e).andThen λv f=>.ok (.tuple #[v,b.getD u undef,b.getD u2 undef]) f:=by simp only[results,h];simp[Sem.run_bind,Result.andThen]
theorem zk8{P:Program}{e:Func}{p u u2:Tmp}{c:TypeId}(h:e.results=#[.cell p c,.tmp u,.tmp u2])(b:Array Value)(w:World)(g:Nat)(t:TypeId)(a:Array Value)(f:Nat×Nat)(d:TypeDesc)(k:b.getD p undef=.pointer (S ⟨g,0,N⟩))(i:w.heap[g]?=S (.cells a t f))(l:P.underlying c=S d)(hd:(match d with| .struct _| .array _ _=>true|_=>false)=true)(j:(P.info? c).map (·.size)=S a.size):(results e b).run P w=.ok (.tuple #[.agg a,b.getD u undef,b.getD u2 undef]) w:=by rw[zlq h,k];simp[asAddr,run_loadVar_row w g t c a f d i l hd j,Result.andThen]
theorem zkv(t s:ByteArray)(w:World)(hs:t.size<=maxLen)(a5:s.size<=maxLen)(hg:QD w):Calls P 55 #[.string t,.string s] w λe j=>zko t.data.toList s w e j:=by
 unfold maxLen at a5;have L:=zgl t (w.alloc JD) hs (hg.below (zc w JD));go_enter func55,ntmps55;go_wp2_with fail;refine L.mono ?_;rintro e R⟨f,a7,G,q⟩;have hz:=f.size;simp at hz;have h:R.heap[w.heap.size]?=some JD:=by rw[f.block _ (by simp)];exact zk _ _
 have z0:=z8 h;have Y:=zi h;have M:=za h;have k:=z6 h;have m:Hid (Below w.heap.size w R):=(zc w JD).trans (f.mono (by simp));have d:=z6 G;clear L f G h;cases a7 with
 |error x=>
  obtain⟨F,a6⟩:=x;simp only[]at q;subst q;have Z:=d.out.errNe;have h1:¬(F:Int)=0:=by omega
  go_wp2_with fail;refine bodyPost_ret (zk8 rfl _ _ w.heap.size _ _ _ _ rfl (by rw[zo (zo (zo (zo k.out _) _) _) _]) underlying108 rfl (by kernel_rfl)) rfl ?_;exact⟨(((m.out.setCell (p:=⟨w.heap.size,0,N⟩) (Nat.le_refl _) _).setCell (p:=⟨w.heap.size,1,N⟩) (Nat.le_refl _) _).setCell (p:=⟨w.heap.size,2,N⟩) (Nat.le_refl _) _).setCell (p:=⟨w.heap.size,3,N⟩) (Nat.le_refl _) _,.error (F,a6),d.out,Z,rfl⟩
 |ok y=>
  obtain⟨g,E⟩:=y;obtain⟨r,O,a9,bx,rs,vr,S,rfl,b⟩:=q;by_cases K:200<s.size
  ·have a1:(200:Int)<s.size:=by omega
   clear b;go_wp2_with fail;refine bodyPost_ret (zk8 rfl _ _ w.heap.size _ _ _ _ rfl (by rw[zo (zo (zo (zo k.out _) _) _) _]) underlying108 rfl (by kernel_rfl)) rfl ?_;refine⟨(((m.out.setCell (p:=⟨w.heap.size,0,N⟩) (Nat.le_refl _) _).setCell (p:=⟨w.heap.size,1,N⟩) (Nat.le_refl _) _).setCell (p:=⟨w.heap.size,2,N⟩) (Nat.le_refl _) _).setCell (p:=⟨w.heap.size,3,N⟩) (Nat.le_refl _) _,.ok (g,E),d.out,r,?_⟩;rw[if_pos K];rfl
  ·have a1:¬(200:Int)<s.size:=by omega
   have a0:=d.out.ends.pos;obtain⟨o,u⟩:=qh (inp:=s.data.toList) d.out.ends;have D:=z6 (zgB b.ted b.blk b.dn a0 r (by omega) o u);have a3:w.heap.size≠O:=by have:=b.mge;simp at this;omega
   have a2:w.heap.size<=O:=by have:=b.mge;simp at this;omega
   have V:=z6 u;clear b u;go_wp2_with fail;refine D.out.mono ?_;rintro _ A⟨rfl,h2,h3,l⟩;have aa:=l.size;have i:A.heap[w.heap.size]?=some JD:=by rw[l.block _ M (by simpa using a3)];exact k.out
   have U:Hid (Below w.heap.size w A):=z6 (m.out.trans (l.belowOf (by simpa using a2) (by omega)));have z2:=z8 i;have f2:=zi i;have l2:=za i;have W:=z6 i;have n:Hid (∀j,Below w.heap.size w j->zko t.data.toList s w (.returned (.tuple #[J1 0 0 o,.bool o.isSome,I J 0])) j):=z6 (λj f=>by refine⟨f,.ok (g,E),d.out,r,?_⟩;rw[if_neg K];exact⟨o,λ_=>V.out,rfl⟩)
   obtain⟨c,nv,z,a4⟩:=zjw o;have a8:=z6 z;have H:∀(X:World) (v:Value),X=((((A.setCell ⟨w.heap.size,0,N⟩ (I J 0)).setCell ⟨w.heap.size,1,N⟩ (I J 0)).setCell ⟨w.heap.size,2,N⟩ (I J c)).setCell ⟨w.heap.size,3,N⟩ v)->Below w.heap.size w X/\X.heap[w.heap.size]?=some (.cells #[I J 0,I J 0,I J c,v] 108 (0,0)):=by rintro X v rfl;refine⟨(((U.out.setCell (p:=⟨w.heap.size,0,N⟩) (Nat.le_refl _) _).setCell (p:=⟨w.heap.size,1,N⟩) (Nat.le_refl _) _).setCell (p:=⟨w.heap.size,2,N⟩) (Nat.le_refl _) _).setCell (p:=⟨w.heap.size,3,N⟩) (Nat.le_refl _) _,?_⟩;rw[zo (zo (zo (zo W.out _) _) _) _];rfl
   have B:=z6 H;clear H z0 Y M k h2 h3 l i D;rw[z]at n|-;clear z;generalize o.isSome=ob at *;rcases a4 with rfl|⟨nt,nx,rfl⟩;·go_wp2_with fail;have a:=B.out _ .nilIface rfl;refine bodyPost_ret (zk8 rfl _ _ w.heap.size _ _ _ _ rfl (by rw[zm _ _ (zd a.2)];exact a.2) underlying108 rfl (by kernel_rfl)) rfl ?_;exact n.out _ (a.1.alloc a.1.size _)
   ·go_wp2_with fail;have a:=B.out _ (.iface nt nx) rfl;refine bodyPost_ret (zk8 rfl _ _ w.heap.size _ _ _ _ rfl (by rw[zm _ _ (zd a.2)];exact a.2) underlying108 rfl (by kernel_rfl)) rfl ?_;exact n.out _ (a.1.alloc a.1.size _)
def zjh(n:Option Nat):Value:=.tuple #[I J (n.getD 0:Nat),.bool n.isSome,I J 0]
def qw(t:List UInt8)(s:ByteArray)(w:World)(e:Ending)(c:World):Prop:=Below w.heap.size w c/\∃a,Zo t a/\match a with| .error (b,_)=>e=.returned (.tuple #[I J 0,.bool false,I J b])| .ok (g,_)=>if 200<s.size then e=.returned (.tuple #[I J 0,.bool false,I J 1])else∃n,e=.returned (zjh n)/\∀o,(∀h:0<g.length,Ev g s.data.toList (.C g[0].choice) 0 o)->n=fin o
theorem zhX(t s:ByteArray)(w:World)(m:t.size<=maxLen)(o:s.size<=maxLen)(r:Except (Nat×Nat) (List ze))(b:Zs t.data.toList r):Calls P 46 #[.string t,.string s] w λe u=>qw t.data.toList s w e u:=by
 have k:=zca t s w m o r b;clear b;go_enter func46,ntmps46;go_wp2_with fail;refine k.mono ?_;rintro e D⟨j,q,b,a⟩;have d:=z6 j;have f:=z6 b;clear k j b;cases q with
 |error x=>
  obtain⟨i,p⟩:=x;obtain⟨v,rfl⟩:=a;have y:¬(i:Int)=0:=by omega
  go_wp2_with fail;go_ret3;exact⟨d.out,.error (i,p),f.out,rfl⟩
 |ok x=>
  obtain⟨g,E⟩:=x;simp only[]at a;by_cases c:200<s.size;·rw[if_pos c]at a;subst a;go_wp2_with fail;go_ret3;refine⟨d.out,.ok (g,E),f.out,?_⟩;simp only[];rw[if_pos c];rfl
  ·rw[if_neg c]at a;obtain⟨B,n,rfl,l⟩:=a;have h:=z6 l.val;clear l;cases n with
   |none=>simp only[JN];go_wp2_with fail;go_ret3;refine⟨d.out,.ok (g,E),f.out,?_⟩;simp only[];rw[if_neg c];exact⟨N,rfl,h.out⟩
   |some x=>
    have z:¬(x:Int)<0:=by omega
    have A:decide ((x:Int)<0)=false:=by simp
    simp only[QI];go_wp2_with fail;go_ret3;refine⟨d.out,.ok (g,E),f.out,?_⟩;simp only[];rw[if_neg c];exact⟨S x,rfl,h.out⟩
theorem zj5(o:Out)(b:zN o<=1000000)(w:World):Calls P 56 #[J1 0 0 o] w λe c=>e=.returned (I J (zN o))/\Below w.heap.size w c:=by
 cases o with
 |none=>simp only[J1,zN];go_enter func56,ntmps56;go_wp2_with fail;go_ret;exact⟨rfl,zc _ _⟩
 |some x=>
  simp only[J1,zN]at b|-;have a:=QV x.2;generalize ntV x.2=d at *;generalize x.1=n at *;rcases a with rfl|⟨t,v,rfl⟩;·go_enter func56,ntmps56;go_wp2_with fail;go_ret;exact⟨by go_num,zc _ _⟩
  ·go_enter func56,ntmps56;go_wp2_with fail;go_ret;exact⟨by go_num,zc _ _⟩
theorem zlo(t s:ByteArray)(w:World)(V:t.size<=maxLen)(W:s.size<=maxLen)(O:QD w):Calls P 28 #[.string t,.string s] w λe f=>qw t.data.toList s w e f:=by
 have H:=zkv t s w V W O;go_enter func28,ntmps28;go_wp2_with fail;refine H.mono ?_;rintro e Z⟨k,Y,D,i⟩;have X:=k.size;have L:=z6 k;have l:=z6 D;clear H k D;have j:∀(n:Int) (o:Out) (b:Bool) (m:Int),zN o<=1000000->n=zN o->Calls P 56 #[J1 0 0 o] (Z.alloc (.cells (match J1 0 0 o with| .agg c=>c|_=>#[]) 108)) λe f=>e=.returned (I J n)/\Below w.heap.size w f:=by intro n o b m r R;subst R;refine(zj5 o r _).mono ?_;rintro e f⟨A,B⟩;exact⟨A,(L.out.alloc X _).trans (B.mono (by simp;omega))⟩
 cases Y with
 |error x=>obtain⟨m,p⟩:=x;obtain⟨h0,rfl⟩:=i;have d:=z6 (j 0 N false m (Nat.zero_le _) rfl);simp only[J1]at d|-;clear j;go_wp2_with fail;refine d.out.mono ?_;rintro _ v⟨rfl,a⟩;have h:=z6 a;clear a;go_wp2_with fail;go_ret3;exact⟨h.out,.error (m,p),l.out,rfl⟩
 |ok y=>
  obtain⟨g,E⟩:=y;replace i:=i.2;by_cases q:200<s.size;·rw[if_pos q]at i;subst i;have d:=z6 (j 0 N false 1 (Nat.zero_le _) rfl);simp only[J1]at d|-;clear j;go_wp2_with fail;refine d.out.mono ?_;rintro _ v⟨rfl,a⟩;have h:=z6 a;clear a;go_wp2_with fail;go_ret3;refine⟨h.out,.ok (g,E),l.out,?_⟩;simp only[];rw[if_pos q];rfl
  ·rw[if_neg q]at i;obtain⟨o,r,rfl⟩:=i;have F:=l.out.ends.pos;have u:=r F;have G:zN o<=1000000:=by
    cases o with
    |none=>exact Nat.zero_le _|some x=>have A:=(u.le (Nat.zero_le _) x.1 x.2 rfl).2;have B:s.data.toList.length=s.size:=rfl;simp only[zN];omega
   have d:=z6 (j (zN o) o o.isSome 0 G rfl);have z:Hid (∀f,Below w.heap.size w f->qw t.data.toList s w (.returned (.tuple #[I J (zN o),.bool o.isSome,I J 0])) f):=z6 (λf k=>by refine⟨k,.ok (g,E),l.out,?_⟩;simp only[];rw[if_neg q];refine⟨fin o,?_,λo' M=>by rw[u.det _ (M F)]⟩;cases o<;>rfl)
   obtain⟨c,nv,K,U⟩:=zjw o;rw[K]at d|-;simp only[]at d;clear j u r K G;generalize o.isSome=ob at *;generalize zN o=oe at *;rcases U with rfl|⟨nt,nx,rfl⟩;·go_wp2_with fail;refine d.out.mono ?_;rintro _ v⟨rfl,a⟩;have h:=z6 a;clear a;go_wp2_with fail;go_ret3;exact z.out _ h.out
   ·go_wp2_with fail;refine d.out.mono ?_;rintro _ v⟨rfl,a⟩;have h:=z6 a;clear a;go_wp2_with fail;go_ret3;exact z.out _ h.out
theorem Zo.pread{l:List UInt8}{b:Except (Nat×Nat) (List ze×List Bool)}(a:Zo l b):∃r,Zs l r:=by
 cases a with
 |text h=>exact⟨_,h⟩|rules h _=>exact⟨_,h⟩|ok h _=>exact⟨_,h⟩
def Ys(t:List UInt8)(s:ByteArray)(a b c:Value):Prop:=∃d,Zo t d/\match d with| .error (e,_)=>a=I J 0/\b=.bool false/\c=I J e| .ok (g,_)=>if 200<s.size then a=I J 0/\b=.bool false/\c=I J 1 else∃o,(∀h:0<g.length,Ev g s.data.toList (.C g[0].choice) 0 o)/\a=I J ((fin o).getD 0:Nat)/\b=.bool (fin o).isSome/\c=I J 0
theorem qw.is{t:List UInt8}{s:ByteArray}{w k:World}{e:Ending}(h:qw t s w e k):Below w.heap.size w k/\∃a b c,e=.returned (.tuple #[a,b,c])/\Ys t s a b c:=by
 obtain⟨m,r,f,d⟩:=h;refine⟨m,?_⟩;cases r with
 |error x=>obtain⟨l,p⟩:=x;exact⟨_,_,_,d,.error (l,p),f,rfl,rfl,rfl⟩
 |ok y=>
  obtain⟨g,E⟩:=y;simp only[]at d;by_cases i:200<s.size;·rw[if_pos i]at d;refine⟨_,_,_,d,.ok (g,E),f,?_⟩;simp only[];rw[if_pos i];simp
  ·rw[if_neg i]at d;obtain⟨n,rfl,q⟩:=d;obtain⟨o,j⟩:=qh (inp:=s.data.toList) f.ends;have:=q o (λ_=>j);subst this;refine⟨_,_,_,rfl,.ok (g,E),f,?_⟩;simp only[];rw[if_neg i];exact⟨o,λ_=>j,by simp⟩
theorem Ys.form{t:List UInt8}{s:ByteArray}{a b c:Value}(h:Ys t s a b c):∃(x:Int) (y:Bool) (z:Int),a=I J x/\b=.bool y/\c=I J z:=by
 obtain⟨e,f,d⟩:=h;cases e with
 |error x=>exact⟨_,_,_,d⟩
 |ok y=>
  simp only[]at d;split at d;·exact⟨_,_,_,d⟩
  ·obtain⟨o,_,h⟩:=d;exact⟨_,_,_,h⟩
theorem Ys.det{t:List UInt8}{s:ByteArray}{a b c i j k:Value}(h:Ys t s a b c)(m:Ys t s i j k):a=i/\b=j/\c=k:=by
 obtain⟨r,f,d⟩:=h;obtain⟨v,n,e⟩:=m;have:=f.det n;subst this;cases r with
 |error x=>obtain⟨rfl,rfl,rfl⟩:=d;obtain⟨rfl,rfl,rfl⟩:=e;exact⟨rfl,rfl,rfl⟩
 |ok y=>
  obtain⟨g,E⟩:=y;simp only[]at d e;by_cases l:200<s.size;·rw[if_pos l]at d e;obtain⟨rfl,rfl,rfl⟩:=d;obtain⟨rfl,rfl,rfl⟩:=e;exact⟨rfl,rfl,rfl⟩
  ·rw[if_neg l]at d e;obtain⟨o,p,rfl,rfl,rfl⟩:=d;obtain⟨u,q,rfl,rfl,rfl⟩:=e;have:=(p f.ends.pos).det _ (q f.ends.pos);subst this;exact⟨rfl,rfl,rfl⟩
theorem ztP(t s:ByteArray)(w:World)(p:t.size<=maxLen)(q:s.size<=maxLen)(l:QD w):Calls P 20 #[.string t,.string s] w λe F=>e=.returned (.bool true)/\Below w.heap.size w F:=by
 have m:=zlo t s w p q l;clear l;go_enter func20,ntmps20;go_wp2_with fail;refine m.mono ?_;intro e G g;obtain⟨j,a,b,c,rfl,d⟩:=g.is;obtain⟨x,y,z,rfl,rfl,rfl⟩:=d.form;obtain⟨r,n⟩:∃r,Zs t.data.toList r:=by obtain⟨H,A,_⟩:=d;exact A.pread
 have o:=z6 (zhX t s G p q r n);have f:=z6 j;have v:=z6 d;clear m g j d n;go_wp2_with fail;refine o.out.mono ?_;intro e J h;obtain⟨k,a,b,c,rfl,i⟩:=h.is;obtain⟨B,D,E⟩:=v.out.det i;subst B;subst D;subst E;have u:=z6 (f.out.trans (k.mono f.out.size));clear h k i o;go_wp2_with fail;all_goals go_ret;exact⟨by simp,u.out⟩
abbrev zf5:ByteArray:=⟨#[97,32,60,45,32,39,120,39,32,97,32,47,32,39,121,39]⟩
end
end Go.Proofs.YtiganlkabilblaaGreatDoor
