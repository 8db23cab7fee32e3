import Derived.Test.YtiganlkabilblaaGreatDoorV43
import Derived.Deep.RegionHeldLaw
import Derived.Deep.CutRange
import Derived.Deep.AppendLies
import Derived.Test.YtiganlkabilblaaGreatDoorV40
import Derived.Lib.Strings
import Derived.Lib.Walk
import Derived.Lib.BufferWrite
import Derived.Lib.UnsafeStr
import Derived.Laws.MakeOwn
import Derived.WalkKit
set_option linter.all false
set_option maxHeartbeats 64000000
set_option maxRecDepth 100000
namespace Go.Proofs.YtiganlkabilblaaGreatDoor
open Tryz
open Tryz renaming prog->P
open Option renaming some->S,none->N
open Value renaming int->I
open IntKind renaming i64->J
section
open Go.RowKit
attribute [local go_sem ↓] Go.wp_at_zero Go.wp_at_succ
theorem Zo.rules20{l:List UInt8}{g:List ze}{E:List Bool}(h:Zo l (.ok (g,E))):g.length<=20:=by
 cases h with
 |ok h _=>obtain⟨_,b,_,a⟩:=zcf h;have:=a.le;omega
theorem Yw.both{t:List UInt8}{s:ByteArray}{B j:Nat}{w r:World}{v c q k:Value}(h:Yw t s B w v c)(i:Yw t s j r q k):∃(L:List Nod) (f:Int),L.length<=5000/\c=I J f/\k=I J f/\Y0 w B v L/\Y0 r j q L:=by
 obtain⟨F,e,b⟩:=h;obtain⟨O,u,d⟩:=i;have:=e.det u;subst this;cases F with
 |error x=>obtain⟨f,p⟩:=x;obtain⟨rfl,rfl⟩:=b;obtain⟨rfl,rfl⟩:=d;exact⟨[],f,by simp,rfl,rfl,World.ownsRow_nil _ _ _ _,World.ownsRow_nil _ _ _ _⟩
 |ok y=>
  obtain⟨g,E⟩:=y;simp only[]at b d;by_cases m:200<s.size;·rw[if_pos m]at b d;obtain⟨rfl,rfl⟩:=b;obtain⟨rfl,rfl⟩:=d;exact⟨[],1,by simp,rfl,rfl,World.ownsRow_nil _ _ _ _,World.ownsRow_nil _ _ _ _⟩
  ·rw[if_neg m]at b d;obtain⟨o,n,rfl,l⟩:=b;obtain⟨N,z,rfl,i⟩:=d;have:=(n e.ends.pos).det _ (z e.ends.pos);subst this;cases o with
   |none=>subst l;subst i;exact⟨[],0,by simp,rfl,rfl,World.ownsRow_nil _ _ _ _,World.ownsRow_nil _ _ _ _⟩|some x=>obtain⟨a,H,rfl,A⟩:=l;obtain⟨G,K,rfl,D⟩:=i;have M:=qj e.ends e.rules20 (show s.data.toList.length<=200 by show s.size<=200;omega) n;exact⟨K0 x,0,by simp only[K0,List.length_cons,YS];omega,rfl,rfl,A,D⟩
theorem Yw.pread{t:List UInt8}{s:ByteArray}{B:Nat}{w:World}{v c:Value}(h:Yw t s B w v c):∃r,Zs t r:=by obtain⟨b,a,_⟩:=h;exact a.pread
theorem Yw.form{t:List UInt8}{s:ByteArray}{B:Nat}{w:World}{v c:Value}(h:Yw t s B w v c):∃a n b d,v=.slice a n b/\c=I J d:=by obtain⟨L,d,_,e,_,f,_⟩:=h.both h;obtain⟨a,b,g⟩:=zl f;exact⟨a,_,b,d,g,e⟩
theorem GrW.belowOf{w b:World}{a:Nat->Prop}{B:Nat}(h:GrW w b a)(e:B<=w.heap.size)(c:∀x,a x->B<=x):Below B w b:=⟨h.os,h.tape,h.output,h.size,λk f=>h.block k (by omega) (λd=>by have:=c k d;omega)⟩
def zsm(n:Nat):List UInt8:=(48+UInt8.ofNat (n % 10))::if n<10 then[]else zsm (n/10) termination_by n decreasing_by omega
def mkB(m:Nat):ByteArray:=⟨([40,109,105,110,101,32]++zsm m).toArray⟩
theorem ztf(m:Nat)(r:m<=5000000000000)(w:World):Calls P 74 #[I J m] w λe n=>e=.returned (.string (mkB m))/\n=w:=by
 go_enter func74,ntmps74;go_wp2_with fail;go_loopg[0,3] (m+1) (λk h j wr=>∃(i:Nat) (s:List UInt8),k=i+1/\h=I J i/\i<=m/\j=.string (ByteArray.mk s.toArray)/\s++zsm i=[40,109,105,110,101,32]++zsm m/\s.length+i<=m+6/\wr=w);case atStart=>exact⟨m,_,rfl,rfl,Nat.le_refl _,rfl,rfl,by simp;omega,rfl⟩
 case round=>
  obtain⟨i,s,rfl,rfl,p,rfl,a,q,rfl⟩:=hrel;have t:0<=(i:Int) % 10:=by omega
  have u:(i:Int) % 10<10:=by omega
  have v:0<=(i:Int)/10:=by omega
  have x:(i:Int)/10<=i:=by omega
  have hd:(ByteArray.mk #[48,49,50,51,52,53,54,55,56,57]).extract (i % 10) (i % 10+1)=⟨#[48+UInt8.ofNat (i % 10)]⟩:=by
   have c:i % 10<10:=by omega
   generalize i % 10=d at c|-;have f:d=0\/d=1\/d=2\/d=3\/d=4\/d=5\/d=6\/d=7\/d=8\/d=9:=by omega
   rcases f with rfl|rfl|rfl|rfl|rfl|rfl|rfl|rfl|rfl|rfl<;>rfl
  have o:∀(l:List UInt8) (d:UInt8),(ByteArray.mk l.toArray++ByteArray.mk #[d])=⟨(l++[d]).toArray⟩:=λl d=>by apply ByteArray.ext;simp[ByteArray.data_append]
  by_cases b:i<10
  ·have g:(i:Int)/10=0:=by omega
   go_wp2_with fail;go_ret;refine⟨?_,rfl⟩;rw[zsm,if_pos b]at a;unfold mkB;rw[<-a];rfl
  ·have g:¬(i:Int)/10=0:=by omega
   go_wp2_with fail;go_roundg (i/10+1);case measure=>omega
   case rel=>exact⟨i/10,s++[48+UInt8.ofNat (i % 10)],rfl,by simp,by omega,rfl,by rw[zsm,if_neg b]at a;simpa using a,by simp;omega,rfl⟩
end
section
open Go.RowKit
def zrZ(zc:List Value):Nat->List Value
 |1=>zc
 |2=>zc++zc
 |_=>zc++(zc++zc)
section
variable {w0 : World} {P : Nat → Prop} {T TS : TypeId} {sz zb : Nat} {zc : List Value} {ao : Option Addr} {b n cap : Nat} {olds : List Value}
structure RSG(w0:World)(P:Nat->Prop)(T:TypeId)(sz:Nat)(zc:List Value)(zb:Nat)(ao:Option Addr)(b n cap:Nat)(olds:List Value)(w:World):Prop where
 lst:JK P sz w ao b n cap olds
 z:zb<w.heap.size
 fr:GrW w0 w (λx=>x=b/\0<cap)
 zf:w.heap[zb]?=some (.cells zc.toArray T (0,0))
 nzb:¬(zb=b/\0<cap)
 pf:∀x,w0.heap.size<=x->P x
theorem RSG.alloc{w:World}(h:RSG w0 P T sz zc zb ao b n cap olds w)(o:Obj):RSG w0 P T sz zc zb ao b n cap olds (w.alloc o):=⟨h.lst.ev (EvW.alloc _ _) (by simp) (λj u e=>by have a:=h.lst.came.olds j u e;rw[Nat.zero_add]at a;rw[World.cell?_alloc_lt _ _ _ (World.block_lt_of_cell? w _ a)];exact a),by have:=h.z;simp;omega,⟨h.fr.os,h.fr.tape,h.fr.output,by have:=h.fr.size;simp;omega,λk c d=>by rw[zm _ _ (by have:=h.fr.size;omega)];exact h.fr.block k c d⟩,by rw[zm _ _ h.z];exact h.zf,h.nzb,h.pf⟩
theorem ztm{l:TypeInfo}{z:Value}(i:prog.underlying TS=S (.slice T))(D:prog.info? T=S l)(U:l.zero=S z)(V:l.size=sz)(W:l.bytes<=100)(m:zc.length=sz)(J:∀u∈zc,u.oneCell'=true){w:World}{t:Array Oper}{o:Oper}{a:Act}{K:Act->World->Prop}{Q:Exit->Act->World->Prop}{E:Prop}(B:o.guard=N)(s x:Operand)(H:o.op=.call {callee:=.builtin .append,args:=#[s,x],argTypes:=#[TS,TS]})(d:RSG w0 P T sz zc zb ao b n cap olds w)(O:a.eval s=.slice ao n cap)(p k c:Nat)(j:a.eval x=.slice (S ⟨p,0,N⟩) k c)(q:k=1\/k=2\/k=3)(L:w.heap[p]?=S (.cells (zrZ zc k).toArray T (0,0)))(hb:n<=5000)(y:∀g h f,J4 P sz f (.slice g (n+k) h) (n+k)->EvW w f->RSG w0 P T sz zc zb ao b n cap olds f->GrW w f (λx=>x=b/\0<cap)->K (a.put o.dst (.slice g (n+k) h)) f):if Region.wanted o (yielded t a.tmps)=true then Oper.wp prog o a w K Q else E:=by
 have R:Region.wanted o (yielded t a.tmps)=true:=by simp[Region.wanted,B]
 rw[if_pos R];have G:(zrZ zc k).toArray.toList.length=k *sz:=by
  rcases q with rfl|rfl|rfl;·simp[zrZ,m]
  ·simp[zrZ,m];omega
  ·simp[zrZ,m];omega
 have v:∀u∈(zrZ zc k).toArray.toList,u.oneCell'=true:=by intro u i;refine J u ?_;rcases q with rfl|rfl|rfl<;>simpa[zrZ]using i
 obtain⟨g,h,f,M,X,Y,Z,e⟩:=ziv i D U V W o.type d.lst (.slice (S ⟨p,0,N⟩) k c) k (zrZ zc k).toArray.toList (Src.ofSlice w i ⟨p,0,N⟩ k c _ G (World.news_of_block L) v) (by omega) (by omega) (λx j=>d.pf x (by have:=d.fr.size;omega));unfold Oper.wp;simp[execOp,H,resolve,invoke,builtin,O,j,M,Result.andThen];refine y g h f X Y ⟨Z,by have:=e.size;have:=d.z;omega,⟨e.os.trans d.fr.os,e.tape.trans d.fr.tape,e.output.trans d.fr.output,Nat.le_trans d.fr.size e.size,λx j r=> ?_⟩,?_,d.nzb,d.pf⟩ e;·rw[e.block x (by have:=d.fr.size;omega) r];exact d.fr.block x j r
 ·rw[e.block zb d.z d.nzb];exact d.zf
end
section
variable {w0 : World} {P : Nat → Prop} {T TS : TypeId} {sz zb nb n : Nat} {zc : List Value} {A : Nat → Option Addr} {C : Nat → Nat}
structure zrc(w0:World)(P:Nat->Prop)(T TS:TypeId)(sz:Nat)(zc:List Value)(zb nb n:Nat)(A:Nat->Option Addr)(C:Nat->Nat)(k i:Nat)(w:World):Prop where
 fr:GrW w0 w P
 zf:w.heap[zb]?=some (.cells zc.toArray T (0,0))
 nk:w.heap[nb]?=some (.cells #[.slice (A 0) (n+0) (C 0),.slice (A 1) (n+1) (C 1),.slice (A 2) (n+2) (C 2),.slice (A 3) (n+3) (C 3)] TS (0,0))
 nge:w0.heap.size<=nb
 nz:¬P zb
 rooms:∀k,k<4->J4 (λx=>P x/\x≠nb) sz w (.slice (A k) (n+k) (C k)) (n+k)
 full:∀k' i',k'<4->i'<n+k'->(k'<k\/k'=k/\i'<i)->∃b,A k'=some ⟨b,0,none⟩/\∀j,j<sz->w.cell? ⟨b,i' *sz+j,none⟩=zc[j]?
theorem zrc.drew{k i:Nat}{w:World}(h:zrc w0 P T TS sz zc zb nb n A C k i w):zrc w0 P T TS sz zc zb nb n A C k i w.drew:=⟨h.fr.drew,h.zf,h.nk,h.nge,h.nz,λk d=>(h.rooms k d).ev (λa c=>⟨c,rfl⟩) (Nat.le_refl _),h.full⟩
theorem zrc.store{k i:Nat}{w:World}(W:zc.length=sz)(h:zrc w0 P T TS sz zc zb nb n A C k i w)(l:k<4)(K:i<n+k){b:Nat}(s:A k=S ⟨b,0,N⟩):zrc w0 P T TS sz zc zb nb n A C k (i+1) (w.setCells b (i *sz) zc):=by
 obtain⟨ao,E,cap,d,G,Y,H⟩:=h.rooms k l;cases d;obtain⟨p,⟨q,D⟩,X⟩:=G (by omega);obtain rfl:b=E:=by rw[s]at p;simpa using p
 have L:∀a,a<n+k->∀j,j<sz->a *sz+j<(n+k) *sz:=λa g j c=>by have:=Nat.mul_le_mul_right sz g;rw[Nat.succ_mul]at this;omega
 have u:∀j,j<zc.length->(w.cell? ⟨b,i *sz+j,N⟩).isSome=true:=λj c=>(H (i *sz+j) (L i K j (by omega))).1;obtain⟨V,z⟩:=zar b zc (i *sz) w;have y:∀j,j<sz->(w.setCells b (i *sz) zc).cell? ⟨b,i *sz+j,N⟩=zc[j]?:=λj c=>by rw[World.cell?_setCells_in b zc _ w u j (by omega),List.getElem?_eq_getElem]
 have m:∀x,x≠b->x<w.heap.size->(w.setCells b (i *sz) zc).heap[x]?=w.heap[x]?:=λx o O=>World.heap_setCells_other _ _ _ _ O o;refine⟨⟨(World.os_setCells _ _ _ _).trans h.fr.os,V.trans h.fr.tape,(World.output_setCells _ _ _ _).trans h.fr.output,by rw[z];exact h.fr.size,λx o t=> ?_⟩,?_,?_,h.nge,h.nz,λk l=>(h.rooms k l).ev (EvW.setCells b zc _ w u) (by rw[z];exact Nat.le_refl _),?_⟩;·rw[m x (λe=>t (by rw[e];exact q)) (by have:=h.fr.size;omega)];exact h.fr.block x o t
 ·rw[m zb (λe=>h.nz (e▸q)) (zd h.zf)];exact h.zf
 ·rw[m nb (λe=>D e.symm) (zd h.nk)];exact h.nk
 ·intro B a M g Z;by_cases U:B=k/\a=i;·obtain⟨rfl,rfl⟩:=U;exact⟨b,s,y⟩
  ·obtain⟨r,J,hF⟩:=h.full B a M g (by omega);refine⟨r,J,λj c=> ?_⟩;by_cases v:r=b/\a=i;·obtain⟨rfl,rfl⟩:=v;exact y j c
   ·rw[World.cell?_setCells_out b zc _ w _ (λd _=> ?_)];·exact hF j c
    ·have R:a≠i:=λe=>v ⟨d,e⟩;show a *sz+j<i *sz\/i *sz+zc.length<=a *sz+j;rw[W];rcases Nat.lt_or_gt_of_ne R with f|f;·have:=Nat.mul_le_mul_right sz f;rw[Nat.succ_mul]at this;omega
     ·have:=Nat.mul_le_mul_right sz f;rw[Nat.succ_mul]at this;omega
theorem ztd{w:World}{ao:Option Addr}{b cap:Nat}{olds:List Value}(a:RSG w0 P T sz zc zb ao b n cap olds w)(G:¬P zb)(D:0<cap->P b){d f g:Option Addr}{h i l:Nat}(H:J4 P sz w (.slice d (n+1) h) (n+1))(J:J4 P sz w (.slice f (n+2) i) (n+2))(K:J4 P sz w (.slice g (n+3) l) (n+3)):∃(nb:Nat) (A:Nat->Option Addr) (C:Nat->Nat),Value.slice (S ⟨w.heap.size,0,N⟩) 4 4=.slice (S ⟨nb,0,N⟩) 4 4/\zrc w0 P T TS sz zc zb nb n A C 0 0 (w.alloc (.cells #[.slice ao n cap,.slice d (n+1) h,.slice f (n+2) i,.slice g (n+3) l] TS)):=by
 have c:∀{v:Value} {n:Nat} (O:Obj),J4 P sz w v n->J4 (λx=>P x/\x≠w.heap.size) sz (w.alloc O) v n:=by
  intro v n O m;obtain⟨ao,b,cap,r,s,t,u⟩:=m;refine⟨ao,b,cap,r,λB=> ?_,t,λj y=> ?_⟩;·obtain⟨o,p,U⟩:=s B;exact⟨o,⟨p,by omega⟩,by simp;omega⟩
  ·obtain⟨o,p⟩:=u j y;have:=EvW.alloc w O _ o;exact⟨this.1,this.2.trans p⟩
 refine⟨w.heap.size,λk=>if k=0 then ao else if k=1 then d else if k=2 then f else g,λk=>if k=0 then cap else if k=1 then h else if k=2 then i else l,rfl,⟨(a.alloc _).fr.os,(a.alloc _).fr.tape,(a.alloc _).fr.output,(a.alloc _).fr.size,λx E m=>(a.alloc _).fr.block x E (λ⟨e,q⟩=>m (e▸D q))⟩,(a.alloc _).zf,zk _ _,a.fr.size,G,λk L=> ?_,λR M _ _ q=>by omega⟩;have z:k=0\/k=1\/k=2\/k=3:=by omega
 rcases z with rfl|rfl|rfl|rfl;·exact c _ a.lst.room
 ·exact c _ H
 ·exact c _ J
 ·exact c _ K
end
structure zrB(TS:TypeId)(sz:Nat)(zc:List Value)(F:Nat->Prop)(w:World)(nb:Nat):Prop where
 fnb:F nb
 ex:∃(n:Nat) (A:Nat->Option Addr) (C:Nat->Nat),n<=5000/\w.heap[nb]?=some (.cells #[.slice (A 0) (n+0) (C 0),.slice (A 1) (n+1) (C 1),.slice (A 2) (n+2) (C 2),.slice (A 3) (n+3) (C 3)] TS (0,0))/\∀k i,k<4->i<n+k->∃b,F b/\b<w.heap.size/\A k=some ⟨b,0,none⟩/\∀j,j<sz->w.cell? ⟨b,i *sz+j,none⟩=zc[j]?
section
variable {TS : TypeId} {sz : Nat} {zc : List Value} {F : Nat → Prop} {w : World} {nb : Nat}
theorem zrB.same{w':World}(h:zrB TS sz zc F w nb)(r:w.heap.size<=w'.heap.size)(d:∀b,b<w.heap.size->F b->w'.heap[b]?=w.heap[b]?):zrB TS sz zc F w' nb:=by obtain⟨n,A,C,q,c,e⟩:=h.ex;refine⟨h.fnb,n,A,C,q,by rw[d nb (zd c) h.fnb];exact c,λk i o l=> ?_⟩;obtain⟨b,hF,p,f,g⟩:=e k i o l;exact⟨b,hF,by omega,f,λj m=>by rw[World.cell?_of_block (a:=⟨b,i *sz+j,N⟩) (d b p hF)];exact g j m⟩
theorem zrB.imp{G:Nat->Prop}(h:zrB TS sz zc F w nb)(a:∀x,F x->G x):zrB TS sz zc G w nb:=by obtain⟨n,A,C,j,c,d⟩:=h.ex;refine⟨a _ h.fnb,n,A,C,j,c,λk i g f=> ?_⟩;obtain⟨b,hF,e⟩:=d k i g f;exact⟨b,a _ hF,e⟩
theorem zrB.lt(h:zrB TS sz zc F w nb):zrB TS sz zc (λx=>F x/\x<w.heap.size) w nb:=by obtain⟨n,A,C,j,a,d⟩:=h.ex;refine⟨⟨h.fnb,zd a⟩,n,A,C,j,a,λk i g f=> ?_⟩;obtain⟨b,hF,c,e⟩:=d k i g f;exact⟨b,⟨hF,c⟩,c,e⟩
end
def BkG(j:Value->Array Value)(i h:TypeId)(k:Nat)(zc:List Value)(e f m:Nat)(d v:Value)(E:List Value)(w b:World):Prop:=∃a c,b.heap[e]?=S (.cells (j a) 36 (0,0))/\b.ownsRow f h 1 a (m+1) (E++[Jy c])/\zrB i k zc (λx=>(v.ownBlock=S x\/w.heap.size<=x)/\a.ownBlock≠S x) b c/\GrW w b (λx=>x=e\/v.ownBlock=S x\/d.ownBlock=S x)/\(a.ownBlock=d.ownBlock\/∃g,a.ownBlock=S g/\w.heap.size<=g)
theorem zt5{cs:Value->Array Value}{f:Nat}{T M v:TypeId}{L:Nat}{zc:List Value}(ae:∀u u',(cs u).setIfInBounds f u'=cs u')(ab:v≠36){w X wr p:World}{g B m o n k:Nat}{F c:Option Addr}{G d g3 q:Nat}{E:List Value}{A:Nat->Option Addr}{C:Nat->Nat}{O:Obj}(h:zrc X (λx=>(Value.slice F n G).ownBlock=S x\/X.heap.size<=x) T M L zc w.heap.size o n A C k 0 wr)(hk:k<=4)(aq:¬k<4)(z:Below w.heap.size w X)(ap:X.heap.size=w.heap.size+1)(J:n<=5000)(a7:∀x,(Value.slice F n G).ownBlock=S x->x<w.heap.size/\x≠g/\(Value.slice c m d).ownBlock≠S x)(ai:w.ownsRow B v 1 (.slice c m d) m E)(hy:w.heap[g]?=S (.cells (cs (.slice c m d)) 36 (0,0)))(au:g<w.heap.size)(aj:wr.heap[g]?=S (.cells (cs (.slice c m d)) 36 (0,0)))(ah:S g≠(Value.slice c m d).ownBlock)(a8:p.ownsRow B v 1 (.slice (S ⟨g3,0,N⟩) (m+1) q) (m+1) (E++[Jy o]))(r:(wr.alloc O).grownBy p (Value.slice c m d).ownBlock)(Y:(Value.slice c m d).ownBlock=S g3\/g3=wr.heap.size+1):BkG cs M v L zc g B m (.slice c m d) (.slice F n G) E w (p.setCell ⟨g,f,N⟩ (.slice (S ⟨g3,0,N⟩) (m+1) q)):=by
 have hz:=h.fr.size;have ak:=r.size;simp at ak;have a9:(p.setCell ⟨g,f,N⟩ (.slice (S ⟨g3,0,N⟩) (m+1) q)).heap.size=p.heap.size:=by simp[World.setCell]
 have K:∀x,(Value.slice c m d).ownBlock=S x->x<w.heap.size:=λx l=>(ai.lt x l).2;have V:p.heap[g]?=S (.cells (cs (.slice c m d)) 36 (0,0)):=YC r aj ah;have af:g3≠g:=by rintro rfl;obtain⟨an,s⟩:=Zr a8 rfl;rw[V]at s;simp at s;exact ab s.2.symm
 have H:∀x,x<wr.heap.size->x≠g->(Value.slice c m d).ownBlock≠S x->(p.setCell ⟨g,f,N⟩ (.slice (S ⟨g3,0,N⟩) (m+1) q)).heap[x]?=wr.heap[x]?:=λx l ag t=>by rw[Below.heap_setCell _ _ _ _ ag,r.block x (by simp;omega) (λe=>t e.symm),zm _ _ l]
 have a6:=zd h.nk;have ar:=h.nge;have a0:∀x,x<wr.heap.size->(Value.slice c m d).ownBlock≠S x->(Value.slice (S ⟨g3,0,N⟩) (m+1) q).ownBlock≠S x:=λx l J e=>by
  have e':g3=x:=Option.some.inj e;subst e';rcases Y with y|y;·exact J y
  ·omega
 refine⟨.slice (S ⟨g3,0,N⟩) (m+1) q,o,by rw[zo V,ae],Z6 a8 (λx l=>Below.heap_setCell _ _ _ _ (by have e:g3=x:=Option.some.inj l;subst e;exact af)),⟨⟨.inr (by omega),a0 o a6 (λe=>by have:=K o e;omega)⟩,n,A,C,J,?_,?_⟩,⟨r.os.trans (h.fr.os.trans z.os),r.tape.trans (h.fr.tape.trans z.tape),r.output.trans (h.fr.output.trans z.output),by rw[a9];omega,?_⟩,?_⟩
 ·rw[H o a6 (by omega) (λe=>by have:=K o e;omega)];exact h.nk
 ·intro k' i a4 hi;obtain⟨b,W,s⟩:=h.full k' i a4 hi (by omega);obtain⟨al,b',am,e1,h2,h3,h4⟩:=h.rooms k' a4;cases e1;obtain⟨R,⟨D,a5⟩,U⟩:=h2 (by omega);obtain rfl:b=b':=by rw[W]at R;simpa using R
  have ad:b≠g:=by
   rcases D with e|e;·exact(a7 b e).2.1
   ·omega
  have Z:(Value.slice c m d).ownBlock≠S b:=by
   rcases D with e|e;·exact(a7 b e).2.2
   ·intro y;have:=K b y;omega
  refine⟨b,⟨?_,a0 b U Z⟩,by rw[a9];omega,W,λj hj=> ?_⟩
  ·rcases D with e|e;·exact .inl e
   ·exact .inr (by omega)
  ·rw[World.cell?_of_block (a:=⟨b,i *L+j,N⟩) (H b U ad Z)];exact s j hj
 ·intro x l t;rw[H x (by omega) (λe=>t (.inl e)) (λe=>t (.inr (.inr e))),h.fr.block x (by omega) (by
   rintro(e|e);·exact t (.inr (.inl e))
   ·omega)]
  exact z.block x l
 ·rcases Y with e|e;·exact .inl e.symm
  ·exact .inr ⟨g3,rfl,by omega⟩
end
section
open Go.RowKit
attribute [local go_sem ↓] Go.wp_at_zero Go.wp_at_succ
theorem zul(s:ByteArray)(w:World)(G:s.size<=100000):Calls prog 110 #[.string s] w λe B=>e=.returned (.string s)/\Below w.heap.size w B:=by
 by_cases f:s.size=0
 ·have v:s=⟨#[]⟩:=by apply ByteArray.ext;exact Array.eq_empty_of_size_eq_zero f
  subst v;go_enter func110,ntmps110;go_wp2;go_ret;exact⟨rfl,Below.refl _ _⟩
 ·obtain⟨l,c,z,d,A⟩:=info_parts infoU8;have t:(prog.info? 5).map (·.size)=S 1:=by rw[c];simp[d]
  have q:prog.cellsOf 5=1:=by simp[Program.cellsOf,c,d]
  obtain⟨M,a⟩:∃M,M=madeCells (Value.int .u8 0).cells (((s.size:Nat):Int).toNat *l.size):=⟨_,rfl⟩;have D:M.size=s.size:=by rw[a,size_madeCells,d];simp
  have H:∀W:World,(Instr.makeSlice 117 (I J (s.size:Int)) (I J (s.size:Int))).run prog W=.ok (.slice (S ⟨W.heap.size,0,N⟩) s.size s.size) (W.alloc (.cells M 5)):=λW=>by have h:=run_make (P:=prog) W 117 5 l (I .u8 0) underlying117 c z J J (s.size:Int) (s.size:Int) (by omega) (by omega) (by rw[A];omega) (by omega);rw[<-a]at h;simpa using h
  clear a;have r:=Lib.run_copy_row_string (P:=prog) (w.alloc (.cells M 5)) 117 9 3 5 w.heap.size 0 s.size s.size s M 5 underlying117 t (heap_alloc_new w _) (Nat.le_refl _) (by omega);obtain⟨Y,b⟩:∃Y,Y=(M.toList.take 0++Lib.byteCells s.data.toList++M.toList.drop (0+s.size)).toArray:=⟨_,rfl⟩;rw[<-b]at r;have g:Y.toList=Lib.byteCells s.data.toList:=by rw[b,List.toList_toArray,List.take_zero,List.nil_append,List.drop_of_length_le (by rw[Array.length_toList];omega),List.append_nil]
  have E:Y.size=s.size:=by rw[<-Array.length_toList,g,Lib.byteCells_length, <-Lib.size_eq]
  have i:((w.alloc (.cells M 5)).setRow w.heap.size Y).heap[w.heap.size]?=S (.cells Y 5 (0,0)):=setRow_heap _ _ M _ 5 (0,0) (heap_alloc_new w _);have u:s.data.toList≠[]:=λe=>f (by rw[Lib.size_eq,e];rfl);have m:=Lib.run_unsafeString_row (P:=prog) ((w.alloc (.cells M 5)).setRow w.heap.size Y) 218 3 9 5 underlying218 q w.heap.size Y.size (by unfold World.shape?;rw[i]) s.data.toList u (by rw[<-Lib.size_eq];omega) (by rw[<-Lib.size_eq];omega) (λj x y=>Lib.cells_of_row i Y.size j _ (by rw[List.take_of_length_le (by rw[Array.length_toList];exact Nat.le_refl _),g];simp[Lib.byteCells,y]));rw[<-Lib.size_eq]at m;clear b;go_enter func110,ntmps110;go_wp2;go_ret;have n:Below w.heap.size w (w.alloc (.cells M 5)):=(Below.refl _ w).alloc (Nat.le_refl _) _;have o:Below w.heap.size (w.alloc (.cells M 5)) ((w.alloc (.cells M 5)).setRow w.heap.size Y):=⟨rfl,rfl,rfl,by simp,λk F=>setRow_other _ _ _ _ (by omega)⟩;exact⟨rfl,Lib.below_freeze (n.trans o) (p:=⟨w.heap.size,0,N⟩) (Nat.le_refl _) _⟩
theorem ztG(s:ByteArray)(w:World)(b:s.size<=100000):Calls P 73 #[.string s] w λe c=>e=.returned (.string s)/\Below w.heap.size w c:=by have h:=zul s w b;go_enter func73,ntmps73;go_wp2_with fail;refine h.mono ?_;rintro _ d⟨rfl,a⟩;clear h;go_wp2_with fail;go_ret;exact⟨rfl,a⟩
def zrM(r:z7×Bool):List Value:=[.string ⟨r.1.toArray⟩,.bool r.2]
def Told(w:World)(B:Nat)(v:Value)(a:List (z7×Bool)):Prop:=w.ownsRow B 151 2 v a.length (a.flatMap zrM)
theorem zt3(a:List (z7×Bool))(i j:Nat)(b:i<a.length)(e:j<2):(a.flatMap zrM)[i *2+j]?=(zrM a[i])[j]?:=by
 induction a generalizing i with
 |nil=>simp at b
 |cons p a d=>
  have c:(zrM p).length=2:=rfl;cases i with
  |zero=>simp only[List.flatMap_cons,Nat.zero_mul,Nat.zero_add,List.getElem_cons_zero];rw[List.getElem?_append_left (by omega)]|succ i=>simp only[List.flatMap_cons,List.getElem_cons_succ];rw[List.getElem?_append_right (by omega),c,show(i+1) *2+j-2=i *2+j from by omega];exact d i (by simpa using b)
theorem Told.gen{w:World}{B:Nat}{v:Value}{a:List (z7×Bool)}(h:Told w B v a):∃e n,v=.slice e a.length n/\a.length<=9223372036854775807/\∀j (b:j<a.length),∃c,e=S ⟨c,0,N⟩/\c<w.heap.size/\w.cell? ⟨c,j *2,N⟩=S (.string ⟨a[j].1.toArray⟩)/\w.cell? ⟨c,j *2+1,N⟩=S (.bool a[j].2):=by
 have i:=h;rcases i.2 with⟨rfl,k⟩|⟨d,f,o,rfl,_,m,p,l,_⟩;·exact⟨N,0,by rw[k],by omega,λj b=>by omega⟩
 ·refine⟨_,f,rfl,by unfold maxLen at l;omega,λj b=>⟨d,rfl,za m,?_,?_⟩⟩;·have:=h.cellAt (g:=d) (j *2+0) (by omega);rw[zt3 _ _ _ b (by decide)]at this;exact this
  ·have:=h.cellAt (g:=d) (j *2+1) (by omega);rw[zt3 _ _ _ b (by decide)]at this;exact this
theorem zuk(w:World)(B h:Nat)(f g:Value)(a:List (z7×Bool))(b:Told w B f a)(c:Told w h g a):Calls P 44 #[f,g] w λe l=>e=.returned (.bool true)/\Below w.heap.size w l:=by
 obtain⟨A,E,rfl,t,j⟩:=b.gen;obtain⟨D,F,rfl,_,hd⟩:=c.gen;clear b c;go_enter func44,ntmps44;go_wp2_with fail;go_loopg[5] a.length (λm v wr=>∃i q:Nat,m=a.length-i/\v=I J i/\i<=a.length/\wr=w.drewN q);case atStart=>exact⟨0,0,by omega,rfl,by omega,rfl⟩
 case round=>
  obtain⟨i,q,rfl,rfl,s,rfl⟩:=hrel;by_cases d:i<a.length
  ·have k:(i:Int)<a.length:=by omega
   obtain⟨G,rfl,y,n,o⟩:=j i d;obtain⟨H,rfl,z,p,r⟩:=hd i d;have u:(a[i].1 !=a[i].1)=false:=by simp
   have x:(a[i].2 !=a[i].2)=false:=by simp
   go_wp2_with fail;go_quiet(fail);go_wp2_with fail;go_roundg (a.length-(i+1));case measure=>omega
   case rel=>exact⟨i+1,_,rfl,by go_num,by omega,rfl⟩
  ·have k:¬(i:Int)<a.length:=by omega
   go_wp2_with fail;go_ret;exact⟨rfl,below_drewN (Below.refl _ _) _⟩
end
end Go.Proofs.YtiganlkabilblaaGreatDoor
