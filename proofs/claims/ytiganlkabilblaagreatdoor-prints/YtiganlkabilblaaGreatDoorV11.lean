import Derived.Test.YtiganlkabilblaaGreatDoorV00
import Derived.Test.YtiganlkabilblaaGreatDoorV10
import Derived.Deep.RegionHeldLaw
import Derived.Deep.RegionLaw
import Derived.Deep.DrawnRows
set_option linter.all false
set_option maxHeartbeats 64000000
set_option maxRecDepth 100000
namespace Go.Proofs.YtiganlkabilblaaGreatDoor
open Tryz
open Tryz renaming prog->P
open Option renaming some->S,none->N
open Value renaming int->I
open IntKind renaming i64->J
structure RE where
 kind:Nat
 items:List zR
 text:z7
 rule:Int
 parts:List Nat
structure OP where
 seqs:List Nat
 terms:List Nat
 sign:z7
structure ST where
 xs:List RE
 rs:List (z7×Nat)
 os:List OP
 sign:z7
 may:Bool
def zE(b:z7):Nat:=if b=[63]then 7 else if b=[42]then 8 else if b=[43]then 9 else if b=[38]then 10 else 11
def zy(k e:Nat):RE:=⟨k,[],[],0,[e]⟩
def ST.add(S:ST)(e:RE):ST:={S with xs:=S.xs++[e]}
def ST.top(S:ST):OP:=S.os.getLastD ⟨[],[],[]⟩
def ST.setTop(S:ST)(o:OP):ST:={S with os:=S.os.dropLast++[o]}
def ST.push(S:ST)(e:Nat):ST:={S.setTop {S.top with terms:=S.top.terms++[e]}with may:=true}
def ST.term(S:ST)(e:Nat)(sign:z7):ST:=if sign=[]then S.push e else(S.add (zy (zE sign) e)).push S.xs.length
def RE.z:RE:=⟨0,[],[],0,[]⟩
def ST.behind(S:ST)(sign:z7):ST:=
 let k:=S.top.terms.getLastD 0
 let x:=S.xs.getD k RE.z
 if x.kind=10\/x.kind=11 then
  {S with xs:=(S.xs++[zy (zE sign) (x.parts.headD 0)]).set k {x with parts:=[S.xs.length]},may:=false}
 else {(S.add (zy (zE sign) k)).setTop {S.top with terms:=S.top.terms.dropLast++[S.xs.length]}with may:=false}
def ST.slash(S:ST):ST:=(S.add ⟨5,[],[],0,S.top.terms⟩).setTop ⟨S.top.seqs++[S.xs.length],[],S.top.sign⟩
def ST.closed(S:ST):ST:=({S.slash with os:=S.os.dropLast}:ST).add ⟨6,[],[],0,S.top.seqs++[S.xs.length]⟩
section
open Go.RowKit
attribute [local go_sem ↓] Go.wp_at_zero Go.wp_at_succ
theorem infoExpr:(prog.info? 149).map (λi=>(i.zero,i.size,i.bytes))=S (S (.agg #[I J 0,.slice N 0 0,.string ⟨#[]⟩,I J 0,.slice N 0 0]),5,80):=by kernel_rfl
def exC(p:RE×Value×Value):List Value:=[I J p.1.kind,p.2.1,.string ⟨p.1.text.toArray⟩,I J p.1.rule,p.2.2]
def ruC(r:z7×Nat):List Value:=[.string ⟨r.1.toArray⟩,I J r.2]
def opC(p:OP×Value×Value):List Value:=[p.2.1,p.2.2,.string ⟨p.1.sign.toArray⟩]
def Zq(n:Nat):Value:=I J n
def Ints(w:World)(B:Nat)(v:Value)(a:List Nat):Prop:=w.ownsRow B 3 1 v a.length (a.map Zq)
abbrev rdO(e d c:Value)(b:z7)(a:Bool):Obj:=.cells #[e,d,c,.string ⟨b.toArray⟩,.bool a] 204 (0,0)
structure qn(w:World)(B rb:Nat)(vx vr vo:Value)(sg:z7)(may:Bool)(cs news:List Value)(n:Nat)(w':World)(g cap:Nat):Prop where
 blk:w'.heap[rb]?=some (rdO (.slice (some ⟨g,0,none⟩) (n+1) cap) vr vo sg may)
 own:w'.ownsRow B 149 5 (.slice (some ⟨g,0,none⟩) (n+1) cap) (n+1) (cs++news)
 at_:vx.ownBlock=some g\/w.heap.size<=g
 size:w.heap.size<=w'.heap.size
 same:∀k,k<w.heap.size->k≠rb->some k≠vx.ownBlock->w'.heap[k]?=w.heap[k]?
 os:w'.os=w.os
 tape:w'.tape=w.tape
 output:w'.output=w.output
theorem zc1{w:World}{b o:Nat}{u:Value}{a:Nat}{e:TypeId}{c:Nat}{v:Value}{n:Nat}{d:List Value}(h:w.ownsRow a e c v n d)(f:v.ownBlock≠S b):(w.setCell ⟨b,o,N⟩ u).ownsRow a e c v n d:=Z6 h (λg i=>Below.heap_setCell _ _ _ _ (λe=>f (by rw[i,e])))
theorem zdK{w:World}{B a:Nat}{b:Option Addr}{c n:Nat}{r q:Value}{p:z7}{o:Bool}{s y:List Value}{d f:Obj}{j:World}{g l:Nat}(x:w.heap[a]?=S (rdO (.slice b n c) r q p o))(u:∀g,(Value.slice b n c).ownBlock=S g->g≠a)(F:j.ownsRow B 149 5 (.slice (S ⟨g,0,N⟩) (n+1) l) (n+1) (s++y))(i:((w.alloc d).alloc f).drew.grownBy j (Value.slice b n c).ownBlock)(t:(Value.slice b n c).ownBlock=S g\/g=w.heap.size+2):qn w B a (.slice b n c) r q p o s y n (j.setCell ⟨a,0,N⟩ (.slice (S ⟨g,0,N⟩) (n+1) l)) g l:=by
 have H:=za x;have J:=i.size;rw[show(((w.alloc d).alloc f).drew).heap.size=w.heap.size+2 from by show((w.alloc d).alloc f).heap.size=_;simp]at J;have D:g≠a:=by
  rcases t with h|h;·exact u g h
  ·omega
 have v:∀k,k<w.heap.size->S k≠(Value.slice b n c).ownBlock->j.heap[k]?=w.heap[k]?:=by intro k m E;rw[i.block k (by show k<((w.alloc d).alloc f).heap.size;simp;omega) E];show((w.alloc d).alloc f).heap[k]?=_;rw[zm _ _ (by simp;omega),zm _ _ m]
 have G:j.heap[a]?=S (rdO (.slice b n c) r q p o):=by rw[v a H (λe=>u a e.symm rfl)];exact x
 refine⟨?_,?_,?_,by simp;omega,?_,i.os,i.tape,i.output⟩;·rw[Jo G];rfl
 ·exact zc1 F (by simpa[Value.ownBlock]using D)
 ·rcases t with h|h;·exact .inl h
  ·right;omega
 ·intro k m z A;rw[Below.heap_setCell _ _ _ _ z];exact v k m A
theorem YG(w:World)(B a:Nat)(j:Option Addr)(l n:Nat)(E D:Value)(A:z7)(z:Bool)(s:List Value)(k:Nat)(b:Option Addr)(d c:Nat)(t:ByteArray)(r:Int)(f:Option Addr)(i h:Nat)(m:w.heap[a]?=S (rdO (.slice j n l) E D A z))(p:w.ownsRow B 149 5 (.slice j n l) n s)(hn:n<=100000)(hB:B<=a):Calls P 102 #[.pointer (S ⟨a,0,N⟩),.agg #[I J k,.slice b d c,.string t,I J r,.slice f i h]] w λe w'=>∃g F,e=.returned (I J n)/\qn w B a (.slice j n l) E D A z s [I J k,.slice b d c,.string t,I J r,.slice f i h] n w' g F:=by
 obtain⟨i0,hi,a1,a2,a3⟩:=info_parts infoExpr;have M:=z8 m;have hf:=zi m;have a6:=za m;have c0:=M 0;have v:=λg e=>(p.lt g e).2;have a0:=λg e=>(p.lt g e).1;have x:∀g,(Value.slice j n l).ownBlock=S g->g≠a:=by
  intro g o e;subst e;rcases p.2 with⟨y,_⟩|⟨g',a4,a5,y,_,H,_⟩;·rw[y]at o;simp[Value.ownBlock]at o
  ·rw[y]at o;simp[Value.ownBlock]at o;subst o;rw[m]at H;simp at H
 have R:S a≠(Value.slice j n l).ownBlock:=λe=>x _ e.symm rfl;have n2:S w.heap.size≠(Value.slice j n l).ownBlock:=λe=>Nat.lt_irrefl _ (v _ e.symm);have K:(((w.alloc (.cells #[I J k,.slice b d c,.string t,I J r,.slice f i h] 149)).alloc (.cells #[I J k,.slice b d c,.string t,I J r,.slice f i h] 149)).drew).heap[w.heap.size+1]?=S (.cells #[I J k,.slice b d c,.string t,I J r,.slice f i h] 149 (0,0)):=by show((w.alloc _).alloc _).heap[_]?=_;rw[show w.heap.size+1=(w.alloc (.cells #[I J k,.slice b d c,.string t,I J r,.slice f i h] 149)).heap.size from by simp];exact heap_alloc_new _ _
 have X:=(show Hid _ from K);have z1:(w.alloc (.cells #[I J k,.slice b d c,.string t,I J r,.slice f i h] 149)).frozen? ⟨a,0,N⟩=false:=by rw[World.frozen?_alloc_old _ _ _ (by simp only[];omega)];exact hf 0
 have z2:((w.alloc (.cells #[I J k,.slice b d c,.string t,I J r,.slice f i h] 149)).alloc (.cells #[I J k,.slice b d c,.string t,I J r,.slice f i h] 149)).frozen? ⟨a,0,N⟩=false:=by rw[World.frozen?_alloc_old _ _ _ (by simp;omega)];exact z1
 have U:Hid (∀u∈[Value.int J k,.slice b d c,.string t,I J r,.slice f i h],u.oneCell'=true):=by intro u O;simp at O;rcases O with rfl|rfl|rfl|rfl|rfl<;>rfl
 have Y:Hid (∀g,(Value.slice j n l).ownBlock=S g->g≠a):=x;have z3:(((w.alloc (.cells #[I J k,.slice b d c,.string t,I J r,.slice f i h] 149)).alloc (.cells #[I J k,.slice b d c,.string t,I J r,.slice f i h] 149)).drew).cell? ⟨a,0,N⟩=S (.slice j n l):=by show((w.alloc _).alloc _).cell? _=_;rw[World.cell?_alloc_lt _ _ _ (by simp;omega),World.cell?_alloc_lt _ _ _ (by simp only[];omega)];exact c0
 have HR:Hid (w.heap[a]?=S (rdO (.slice j n l) E D A z)):=m;have Z:Hid (w.ownsRow B 149 5 (.slice j n l) n s):=p;have W:Hid (n+1<=maxLen):=by show _<=_;unfold maxLen;omega
 clear x m p v a0 M K;go_enter func102,ntmps102;go_wp2_with fail;go_region_law ((refine step_append_lies _ (by rfl) _ _ _ (by rfl) B 149 i0 _ 5 80 underlying82 hi a1 a2 a3 (by rfl) (by decide) _ _ _ (by rfl) ((Z.out.alloc _).alloc _) ⟨w.heap.size+1,0,N⟩ 1 1 [I J k,.slice b d c,.string t,I J r,.slice f i h] (by rfl) (by rfl) (World.news_of_block X.out) U.out (by decide) W.out (by omega) (by simp;omega) (w.heap.size+2) (by simp) ?_;intro g F w1 L q G v;have y1:=(q.frozen_far ⟨a,0,N⟩ (by simp;omega) R).trans z2;have y2:w1.cell? ⟨a,0,N⟩=S (.slice j n l):=(q.cell_far ⟨a,0,N⟩ (by simp;omega) R).trans z3;have V:=zdK HR.out Y.out L q G;clear L q G));all_goals go_wp2_with fail
 all_goals go_ret;exact⟨_,_,by simp,V⟩
end
section
open Go.RowKit
structure Chg(b:Nat)(w w':World):Prop where
 os:w'.os=w.os
 tape:w'.tape=w.tape
 output:w'.output=w.output
 size:w.heap.size<=w'.heap.size
 same:∀k,k<w.heap.size->k≠b->w'.heap[k]?=w.heap[k]?
theorem Chg.set(b o:Nat)(u:Value)(w:World):Chg b w (w.setCell ⟨b,o,N⟩ u):=⟨rfl,rfl,rfl,by simp,λk _ h=>Below.heap_setCell _ _ _ _ h⟩
theorem Chg.grown{b:Nat}{w c:World}{a:Option Nat}(h:w.grownBy c a)(g:∀k,a=S k->k=b):Chg b w c:=⟨h.os,h.tape,h.output,h.size,λk f d=>h.block k f (λe=>d (g k e.symm))⟩
theorem Chg.of_below{b:Nat}{w a:World}(h:Below w.heap.size w a):Chg b w a:=⟨h.os,h.tape,h.output,h.size,λk c _=>h.block k c⟩
theorem zq{b:Nat}{w i:World}(c:Chg b w i){a:Nat}{e:TypeId}{f:Nat}{v:Value}{n:Nat}{j:List Value}(h:w.ownsRow a e f v n j)(k:v.ownBlock≠S b):i.ownsRow a e f v n j:=Z6 h (λg d=>c.same g (h.lt g d).2 (λe=>k (by rw[d,e])))
theorem zn{w:World}{d:Nat}{e:TypeId}{l:Nat}{v:Value}{n:Nat}{m:List Value}(h:w.ownsRow d e l v n m){b:Nat}{f:Array Value}{t:TypeId}{i:Nat×Nat}(a:w.heap[b]?=S (.cells f t i))(k:e≠t):v.ownBlock≠S b:=by
 intro c;rcases h.2 with⟨rfl,_⟩|⟨g,o,p,rfl,_,j,_⟩;·simp[Value.ownBlock]at c
 ·simp[Value.ownBlock]at c;subst c;rw[j]at a;simp at a;exact k a.2.1
theorem Qw{w:World}{c:Nat}{e:TypeId}{i:Nat}{v:Value}{n:Nat}{j:List Value}(h:w.ownsRow c e i v n j){b:Nat}(a:v.ownBlock=S b):∃d,w.heap[b]?=S (.cells d e (0,0)):=by
 rcases h.2 with⟨rfl,_⟩|⟨g,k,l,rfl,_,f,_⟩;·simp[Value.ownBlock]at a
 ·simp[Value.ownBlock]at a;subst a;exact⟨_,f⟩
theorem Ki{w:World}{d:Nat}{e:TypeId}{m:Nat}{v:Value}{n:Nat}{p:List Value}(h:w.ownsRow d e m v n p){f:Nat}{a:TypeId}{o:Nat}{c:Value}{l:Nat}{q:List Value}(g:w.ownsRow f a o c l q)(j:e≠a){b:Nat}(k:c.ownBlock=S b):v.ownBlock≠S b:=by obtain⟨r,i⟩:=Qw g k;exact zn h i j
def zal:List TypeId:=[204,149,90,209,3]
structure KT(B:Nat)(w w':World):Prop where
 os:w'.os=w.os
 tape:w'.tape=w.tape
 output:w'.output=w.output
 size:w.heap.size<=w'.heap.size
 low:∀k,k<B->w'.heap[k]?=w.heap[k]?
 ty:∀(k:Nat) (cs:Array Value) (t:TypeId) (fr:Nat×Nat),w.heap[k]?=some (Obj.cells cs t fr)->t∉zal->w'.heap[k]?=w.heap[k]?
theorem KT.refl(B:Nat)(w:World):KT B w w:=⟨rfl,rfl,rfl,Nat.le_refl _,λ_ _=>rfl,λ_ _ _ _ _ _=>rfl⟩
theorem KT.trans{B:Nat}{a b c:World}(h:KT B a b)(k:KT B b c):KT B a c:=⟨k.os.trans h.os,k.tape.trans h.tape,k.output.trans h.output,Nat.le_trans h.size k.size,λi d=>(k.low i d).trans (h.low i d),λi e t f d g=>(k.ty i e t f ((h.ty i e t f d g).trans d) g).trans (h.ty i e t f d g)⟩
theorem KT.alloc(B:Nat)(w:World)(d:B<=w.heap.size)(o:Obj):KT B w (w.alloc o):=⟨rfl,rfl,rfl,by simp,λk a=>zm _ _ (by omega),λk b t c a _=>zm _ _ (za a)⟩
theorem KT.drew{B:Nat}{a w:World}(h:KT B a w):KT B a w.drew:=⟨h.os,h.tape,h.output,h.size,h.low,h.ty⟩
theorem KT.drewN{B:Nat}{a w:World}(h:KT B a w)(q:Nat):KT B a (w.drewN q):=⟨h.os,h.tape,h.output,h.size,h.low,h.ty⟩
theorem KT.chg{B b:Nat}{w g:World}(c:Chg b w g)(l:B<=w.heap.size)(j:B<=b)(h:∀(a:Array Value) (t:TypeId) (d:Nat×Nat),w.heap[b]?=S (Obj.cells a t d)->t∈zal):KT B w g:=⟨c.os,c.tape,c.output,c.size,λk f=>c.same k (by omega) (by omega),λk a t d f i=>c.same k (za f) (λe=>by subst e;exact i (h a t d f))⟩
structure MV where
 vx:Value
 vr:Value
 vo:Value
 xs:List (RE×Value×Value)
 rs:List (z7×Nat)
 os:List (OP×Value×Value)
 sign:z7
 may:Bool
def MV.st(M:MV):ST:=⟨M.xs.map (·.1),M.rs,M.os.map (·.1),M.sign,M.may⟩
def Lab(a:Nat->Nat)(v:Value)(l:Nat):Prop:=∀g,v.ownBlock=S g->a g=l
structure Mem(w:World)(B rb:Nat)(M:MV)(lab:Nat->Nat)(P:Nat->Prop):Prop where
 ge:B<=rb
 blk:w.heap[rb]?=some (rdO M.vx M.vr M.vo M.sign M.may)
 ex:w.ownsRow B 149 5 M.vx M.xs.length (M.xs.flatMap exC)
 ru:w.ownsRow B 90 2 M.vr M.rs.length (M.rs.flatMap ruC)
 op:w.ownsRow B 209 3 M.vo M.os.length (M.os.flatMap opC)
 items:∀p∈M.xs,Items w B p.2.1 p.1.items
 parts:∀p∈M.xs,Ints w B p.2.2 p.1.parts/\∀g,p.2.2.ownBlock=some g->P (lab g)
 opens:∀k (h:k<M.os.length),Ints w B M.os[k].2.1 M.os[k].1.seqs/\Lab lab M.os[k].2.1 (2 *k+1)/\Ints w B M.os[k].2.2 M.os[k].1.terms/\Lab lab M.os[k].2.2 (2 *k+2)
theorem Mem.lt{w:World}{B a:Nat}{M:MV}{b:Nat->Nat}{P:Nat->Prop}(h:Mem w B a M b P):a<w.heap.size:=za h.blk
theorem Mem.below{w w':World}{B i:Nat}{M:MV}{l lab':Nat->Nat}{P:Nat->Prop}(h:Mem w B i M l P)(a:Below w.heap.size w w')(e:∀g,g<w.heap.size->lab' g=l g):Mem w' B i M lab' P:=by
 refine⟨h.ge,by rw[a.block i h.lt];exact h.blk,Zv h.ex a,Zv h.ru a,Zv h.op a,λp f=>Zv (h.items p f) a,?_,?_⟩;·intro p f;obtain⟨c,d⟩:=h.parts p f;exact⟨Zv c a,λg b=>by rw[e g (c.lt g b).2];exact d g b⟩
 ·intro k n;obtain⟨c,d,j,m⟩:=h.opens k n;exact⟨Zv c a,λg b=>by rw[e g (c.lt g b).2];exact d g b,Zv j a,λg b=>by rw[e g (j.lt g b).2];exact m g b⟩
theorem Mem.add{w q:World}{B y:Nat}{M:MV}{x:Nat->Nat}{P:Nat->Prop}(h:Mem w B y M x P){g A:Nat}{re:RE}{iv pv:Value}(c:qn w B y M.vx M.vr M.vo M.sign M.may (M.xs.flatMap exC) (exC (re,iv,pv)) M.xs.length q g A)(F:Items w B iv re.items)(H:Ints w B pv re.parts)(G:∀b,pv.ownBlock=S b->P (x b)):Mem q B y {M with vx:=.slice (S ⟨g,0,N⟩) (M.xs.length+1) A,xs:=M.xs++[(re,iv,pv)]} x P/\KT B w q:=by
 have d:∀{e:TypeId} {z:Nat} {u:Value} {n:Nat} {l:List Value},w.ownsRow B e z u n l->e≠149->e≠204->q.ownsRow B e z u n l:=by
  intro e z u n l o i j;refine Z6 o (λb s=>c.same b (o.lt b s).2 ?_ ?_);·intro r;subst r;exact zn o h.blk j s
  ·intro r;exact Ki o h.ex i r.symm s
 have L:=h.ge;have O:=h.lt;refine⟨⟨h.ge,c.blk,by simpa using c.own,d h.ru (by decide) (by decide),d h.op (by decide) (by decide),?_,?_,?_⟩,⟨c.os,c.tape,c.output,c.size,?_,?_⟩⟩
 ·intro p a;rcases List.mem_append.1 a with a|a;·exact d (h.items p a) (by decide) (by decide)
  ·simp at a;subst a;exact d F (by decide) (by decide)
 ·intro p a;rcases List.mem_append.1 a with a|a;·obtain⟨i,j⟩:=h.parts p a;exact⟨d i (by decide) (by decide),j⟩
  ·simp at a;subst a;exact⟨d H (by decide) (by decide),G⟩
 ·intro k f;obtain⟨i,j,D,E⟩:=h.opens k f;exact⟨d i (by decide) (by decide),j,d D (by decide) (by decide),E⟩
 ·intro k f;refine c.same k (by omega) (by omega) (λe=> ?_);have:=(h.ex.lt k e.symm).1;omega
 ·intro k l t K f m;refine c.same k (za f) ?_ ?_;·intro e;subst e;rw[h.blk]at f;simp at f;rw[<-f.2.1]at m;exact m (by decide)
  ·intro e;obtain⟨J,v⟩:=Qw h.ex e.symm;rw[f]at v;simp at v;rw[v.2.1]at m;exact m (by decide)
theorem Mem.setSign{w:World}{B b:Nat}{M:MV}{g:Nat->Nat}{P:Nat->Prop}(h:Mem w B b M g P)(s:z7):Mem (w.setCell ⟨b,3,N⟩ (.string ⟨s.toArray⟩)) B b {M with sign:=s} g P/\KT B w (w.setCell ⟨b,3,N⟩ (.string ⟨s.toArray⟩)):=by have c:=Chg.set b 3 (.string ⟨s.toArray⟩) w;refine⟨⟨h.ge,by rw[Jo h.blk];rfl,zq c h.ex (zn h.ex h.blk (by decide)),zq c h.ru (zn h.ru h.blk (by decide)),zq c h.op (zn h.op h.blk (by decide)),λp a=>zq c (h.items p a) (zn (h.items p a) h.blk (by decide)),λp a=>⟨zq c (h.parts p a).1 (zn (h.parts p a).1 h.blk (by decide)),(h.parts p a).2⟩,?_⟩,KT.chg c (by have:=h.lt;have:=h.ge;omega) h.ge (λm t n d=>by rw[h.blk]at d;simp at d;rw[<-d.2.1];decide)⟩;intro k l;obtain⟨e,i,f,j⟩:=h.opens k l;exact⟨zq c e (zn e h.blk (by decide)),i,zq c f (zn f h.blk (by decide)),j⟩
theorem Mem.setMay{w:World}{B b:Nat}{M:MV}{g:Nat->Nat}{P:Nat->Prop}(h:Mem w B b M g P)(s:Bool):Mem (w.setCell ⟨b,4,N⟩ (.bool s)) B b {M with may:=s} g P/\KT B w (w.setCell ⟨b,4,N⟩ (.bool s)):=by have c:=Chg.set b 4 (.bool s) w;refine⟨⟨h.ge,by rw[Jo h.blk];rfl,zq c h.ex (zn h.ex h.blk (by decide)),zq c h.ru (zn h.ru h.blk (by decide)),zq c h.op (zn h.op h.blk (by decide)),λp a=>zq c (h.items p a) (zn (h.items p a) h.blk (by decide)),λp a=>⟨zq c (h.parts p a).1 (zn (h.parts p a).1 h.blk (by decide)),(h.parts p a).2⟩,?_⟩,KT.chg c (by have:=h.lt;have:=h.ge;omega) h.ge (λm t n d=>by rw[h.blk]at d;simp at d;rw[<-d.2.1];decide)⟩;intro k l;obtain⟨e,i,f,j⟩:=h.opens k l;exact⟨zq c e (zn e h.blk (by decide)),i,zq c f (zn f h.blk (by decide)),j⟩
theorem VK(a:List (OP×Value×Value)):(a.flatMap opC).length=a.length *3:=by
 induction a with
 |nil=>rfl|cons x c b=>simp[opC,b]at *;omega
theorem UX(a:List (z7×Nat)):(a.flatMap ruC).length=a.length *2:=by
 induction a with
 |nil=>rfl|cons x c b=>simp[ruC,b]at *;omega
theorem Mem.topAt{w:World}{B k:Nat}{M:MV}{q:Nat->Nat}{P:Nat->Prop}(h:Mem w B k M q P){b:List (OP×Value×Value)}{m:OP×Value×Value}(g:M.os=b++[m]):∃a f,M.vo=.slice (S ⟨a,0,N⟩) (b.length+1) f/\B<=a/\a<w.heap.size/\a≠k/\w.cell? ⟨a,b.length *3,N⟩=S m.2.1/\w.cell? ⟨a,b.length *3+1,N⟩=S m.2.2/\w.cell? ⟨a,b.length *3+2,N⟩=S (.string ⟨m.1.sign.toArray⟩)/\∀o,w.frozen? ⟨a,o,N⟩=false:=by
 have c:=h.op;have n:M.os.length=b.length+1:=by rw[g];simp
 rw[n]at c;obtain⟨a,f,i,l,p⟩:=c.form (by omega);rw[i]at c;have d:∀j,j<3->w.cell? ⟨a,b.length *3+j,N⟩=(opC m)[j]?:=by intro j r;rw[c.cellAt _ (by omega),g,List.flatMap_append,List.getElem?_append_right (by rw[VK];omega),VK,show b.length *3+j-b.length *3=j from by omega];simp
 refine⟨a,f,i,l,p,?_,d 0 (by decide),d 1 (by decide),d 2 (by decide),λo=>c.frozenAt o⟩;intro e;subst e;have:=zn c h.blk (by decide);simp[Value.ownBlock]at this
theorem zag(a:List (OP×Value×Value))(m:OP×Value×Value)(j:Nat)(b:j<3)(u:Value):((a++[m]).flatMap opC).set (a.length *3+j) u=a.flatMap opC++(opC m).set j u:=by rw[List.flatMap_append,List.set_append_right _ _ (by rw[VK];omega),VK,show a.length *3+j-a.length *3=j from by omega];simp
theorem Mem.setTop{w:World}{B r:Nat}{M:MV}{W:Nat->Nat}{P:Nat->Prop}(h:Mem w B r M W P){a:List (OP×Value×Value)}{m f:OP×Value×Value}(z:M.os=a++[m]){l X:Nat}(K:M.vo=.slice (S ⟨l,0,N⟩) (a.length+1) X)(j:Nat)(L:j<3)(u:Value)(R:(opC m).set j u=opC f)(n:Nat->Nat)(E:Nat->Prop)(V:∀p∈M.xs,∀g,p.2.2.ownBlock=S g->g<w.heap.size->E (n g))(H:∀k (y:k<a.length),Lab n a[k].2.1 (2 *k+1)/\Lab n a[k].2.2 (2 *k+2))(A:Ints w B f.2.1 f.1.seqs/\Lab n f.2.1 (2 *a.length+1))(D:Ints w B f.2.2 f.1.terms/\Lab n f.2.2 (2 *a.length+2)):Mem (w.setCell ⟨l,a.length *3+j,N⟩ u) B r {M with os:=a++[f]} n E/\KT B w (w.setCell ⟨l,a.length *3+j,N⟩ u):=by
 have c:=Chg.set l (a.length *3+j) u w;have o:=h.op;have G:M.os.length=a.length+1:=by rw[z];simp
 rw[G,K]at o;obtain⟨Y,d⟩:=Qw o (b:=l) rfl;have U:r≠l:=by intro e;subst e;have:=zn o h.blk (by decide);simp[Value.ownBlock]at this
 have J:=(o.stored (a.length *3+j) u).1;refine⟨⟨h.ge,by rw[c.same r h.lt U];exact h.blk,zq c h.ex (zn h.ex d (by decide)),zq c h.ru (zn h.ru d (by decide)),?_,λp i=>zq c (h.items p i) (zn (h.items p i) d (by decide)),λp i=>⟨zq c (h.parts p i).1 (zn (h.parts p i).1 d (by decide)),λg F=>V p i g F ((h.parts p i).1.lt g F).2⟩,?_⟩,KT.chg c (by have:=h.lt;have:=h.ge;omega) (o.lt l rfl).1 (λZ t fr x=>by rw[d]at x;simp at x;rw[<-x.2.1];decide)⟩;·simp only[K,List.length_append,List.length_singleton];rw[z,zag a m j L u,R]at J;simpa using J
 ·intro k y;simp only[]at y|-;by_cases q:k<a.length;·rw[List.getElem_append_left q];obtain⟨s,_,v,_⟩:=h.opens k (by rw[G];omega);simp only[z,List.getElem_append_left q]at s v;exact⟨zq c s (zn s d (by decide)),(H k q).1,zq c v (zn v d (by decide)),(H k q).2⟩
  ·have O:k=a.length:=by simp at y;omega
   subst O;rw[List.getElem_append_right (Nat.le_refl _)];simp only[Nat.sub_self,List.getElem_cons_zero];exact⟨zq c A.1 (zn A.1 d (by decide)),A.2,zq c D.1 (zn D.1 d (by decide)),D.2⟩
end
section
open Go.RowKit
attribute [local go_sem ↓] Go.wp_at_zero Go.wp_at_succ
theorem infoInt:(prog.info? 3).map (λi=>(i.zero,i.size,i.bytes))=S (S (I J 0),1,8):=by kernel_rfl
def YW(b:z7):Prop:=b=[63]\/b=[42]\/b=[43]\/b=[38]\/b=[33]
theorem zan(b:z7)(a:YW b)(w:World):Calls P 143 #[.string ⟨b.toArray⟩] w λe c=>e=.returned (I J (zE b))/\c=w:=by rcases a with rfl|rfl|rfl|rfl|rfl;all_goals go_enter func143,ntmps143;go_wp2_with fail;go_ret;exact⟨rfl,rfl⟩
theorem Mem.grown{w a:World}{B G:Nat}{M:MV}{D:Nat->Nat}{P:Nat->Prop}(h:Mem w B G M D P){O:Nat}{v:Value}{n:Nat}{r:List Value}(z:w.ownsRow O 3 1 v n r)(g:w.grownBy a v.ownBlock)(l:Nat)(L:Lab D v l)(V:¬P l):a.heap[G]?=S (rdO M.vx M.vr M.vo M.sign M.may)/\a.ownsRow B 149 5 M.vx M.xs.length (M.xs.flatMap exC)/\a.ownsRow B 90 2 M.vr M.rs.length (M.rs.flatMap ruC)/\a.ownsRow B 209 3 M.vo M.os.length (M.os.flatMap opC)/\(∀p∈M.xs,Items a B p.2.1 p.1.items)/\(∀p∈M.xs,Ints a B p.2.2 p.1.parts)/\(∀k (h:k<M.os.length),(2 *k+1≠l->Ints a B M.os[k].2.1 M.os[k].1.seqs)/\(2 *k+2≠l->Ints a B M.os[k].2.2 M.os[k].1.terms))/\(∀(k:Nat) (r:Array Value) (t:TypeId) (J:Nat×Nat),w.heap[k]?=S (Obj.cells r t J)->t∉zal->a.heap[k]?=w.heap[k]?):=by
 have q:∀{e:TypeId} {H:Nat} {u:Value} {E:Nat} {j:List Value},w.ownsRow B e H u E j->e≠3->a.ownsRow B e H u E j:=by intro e H u E j d W;exact Z6 d (λb c=>g.block b (d.lt b c).2 (λf=>Ki d z W f.symm c))
 have K:∀{u:Value} {F:List Nat} {A:Nat},Ints w B u F->Lab D u A->A≠l->Ints a B u F:=by intro u F A d X i;exact Z6 d (λb c=>g.block b (d.lt b c).2 (λf=>i (by rw[<-X b c, <-L b f.symm])))
 refine⟨?_,q h.ex (by decide),q h.ru (by decide),q h.op (by decide),λp y=>q (h.items p y) (by decide),?_,?_,?_⟩;·rw[g.block G h.lt (λe=>zn z h.blk (by decide) e.symm)];exact h.blk
 ·intro p y;obtain⟨m,s⟩:=h.parts p y;exact Z6 m (λb c=>g.block b (m.lt b c).2 (λf=>V (by rw[<-L b f.symm];exact s b c)))
 ·intro k o;obtain⟨m,s,R,U⟩:=h.opens k o;exact⟨λi=>K m s i,λi=>K R U i⟩
 ·intro k j t J o N;refine g.block k (za o) (λe=> ?_);obtain⟨Y,x⟩:=Qw z e.symm;rw[o]at x;simp at x;rw[x.2.1]at N;exact N (by decide)
def upd(a:Nat->Nat)(g l:Nat):Nat->Nat:=λb=>if b=g then l else a b
theorem Mem.pushTerm{w u:World}{B E:Nat}{M:MV}{r:Nat->Nat}{P:Nat->Prop}(h:Mem w B E M r P){f:List (OP×Value×Value)}{m:OP×Value×Value}(y:M.os=f++[m]){s oc:Nat}(hv:M.vo=.slice (S ⟨s,0,N⟩) (f.length+1) oc)(hP:¬P (2 *f.length+2)){e g j:Nat}(a8:u.ownsRow B 3 1 (.slice (S ⟨g,0,N⟩) (m.1.terms.length+1) j) (m.1.terms.length+1) (m.1.terms.map Zq++[Zq e]))(n:w.grownBy u m.2.2.ownBlock)(z:m.2.2.ownBlock=S g\/g=w.heap.size):Mem (u.setCell ⟨s,f.length *3+1,N⟩ (.slice (S ⟨g,0,N⟩) (m.1.terms.length+1) j)) B E {M with os:=f++[({m.1 with terms:=m.1.terms++[e]},m.2.1,.slice (S ⟨g,0,N⟩) (m.1.terms.length+1) j)]} (upd r g (2 *f.length+2)) P/\KT B w (u.setCell ⟨s,f.length *3+1,N⟩ (.slice (S ⟨g,0,N⟩) (m.1.terms.length+1) j)):=by
 have Y:f.length<M.os.length:=by rw[y];simp
 obtain⟨V,W,F,G⟩:=h.opens f.length Y;have Z:M.os[f.length]'Y=m:=by simp only[y];rw[List.getElem_append_right (Nat.le_refl _)];simp
 rw[Z]at V W F G;have a9:∀a l,a<w.heap.size->r a=l->(a=g->l=2 *f.length+2)->upd r g (2 *f.length+2) a=l:=by
  intro a l d a5 a2;unfold upd;by_cases J:a=g;·rw[if_pos J,a2 J]
  ·rw[if_neg J];exact a5
 have a3:∀a,a<w.heap.size->a=g->r a=2 *f.length+2:=by
  intro a d v;rcases z with z|z;·rw[v];exact G g z
  ·omega
 have A:∀a,a<w.heap.size->upd r g (2 *f.length+2) a=r a:=λa d=>a9 a _ d rfl (a3 a d);obtain⟨K,L,g3,x,O,R,U,g8⟩:=h.grown F n _ G hP;have c:=Chg.set s (f.length *3+1) (.slice (S ⟨g,0,N⟩) (m.1.terms.length+1) j) u;have a6:M.os.length=f.length+1:=by rw[y];simp
 rw[a6,hv]at x;obtain⟨cs,i⟩:=Qw x (b:=s) rfl;have a7:E≠s:=by intro v;subst v;have:=zn x K (by decide);simp[Value.ownBlock]at this
 have a1:=(x.stored (f.length *3+1) (.slice (S ⟨g,0,N⟩) (m.1.terms.length+1) j)).1;have ab:=n.size;refine⟨⟨h.ge,by rw[c.same E (by have:=h.lt;omega) a7];exact K,zq c L (zn L i (by decide)),zq c g3 (zn g3 i (by decide)),?_,λp o=>zq c (O p o) (zn (O p o) i (by decide)),λp o=>⟨zq c (R p o) (zn (R p o) i (by decide)),λa d=>by rw[A a ((h.parts p o).1.lt a d).2];exact(h.parts p o).2 a d⟩,?_⟩,?_⟩;·simp only[hv,List.length_append,List.length_singleton];rw[y,zag f m 1 (by decide)]at a1;simpa[opC]using a1
 ·intro k H;simp only[]at H|-;by_cases X:k<f.length;·rw[List.getElem_append_left X];obtain⟨i1,i2,i3,i4⟩:=h.opens k (by omega);obtain⟨q,D⟩:=U k (by omega);simp only[y,List.getElem_append_left X]at i1 i2 i3 i4 q D;exact⟨zq c (q (by omega)) (zn (q (by omega)) i (by decide)),λa d=>by rw[A a (i1.lt a d).2];exact i2 a d,zq c (D (by omega)) (zn (D (by omega)) i (by decide)),λa d=>by rw[A a (i3.lt a d).2];exact i4 a d⟩
  ·have a4:k=f.length:=by simp at H;omega
   subst a4;rw[List.getElem_append_right (Nat.le_refl _)];simp only[Nat.sub_self,List.getElem_cons_zero];obtain⟨q,D⟩:=U f.length (by omega);rw[Z]at q;have a0:Ints u B (.slice (S ⟨g,0,N⟩) (m.1.terms.length+1) j) (m.1.terms++[e]):=by unfold Ints;simpa using a8
   exact⟨zq c (q (by omega)) (zn (q (by omega)) i (by decide)),λa d=>by rw[A a (V.lt a d).2];exact W a d,zq c a0 (zn a0 i (by decide)),λa d=>by simp[Value.ownBlock]at d;subst d;simp[upd]⟩
 ·refine KT.trans ⟨n.os,n.tape,n.output,n.size,?_,g8⟩ (KT.chg c (by have:=h.lt;have:=h.ge;omega) (x.lt s rfl).1 (λaa t fr d=>by rw[i]at d;simp at d;rw[<-d.2.1];decide));intro k H;refine n.block k (by have:=h.lt;have:=h.ge;omega) (λv=> ?_);have:=(F.lt k v.symm).1;omega
def QS(w:World)(B f:Nat)(c:ST)(v:Value)(e:Ending)(b:World):Prop:=e=.returned v/\∃a d,Mem b B f a d (· =0)/\KT B w b/\a.st=c
theorem zij(w:World)(B c:Nat)(M:MV)(y:Nat->Nat)(h:Mem w B c M y (· =0))(a:List (OP×Value×Value))(m:OP×Value×Value)(l:M.os=a++[m])(e:Nat)(af:m.1.terms.length<=100000)(ag:a.length<=100000):Calls P 101 #[.pointer (S ⟨c,0,N⟩),I J e,.string ⟨#[]⟩] w λe' w'=>QS w B c (M.st.push e) (.tuple #[]) e' w':=by
 obtain⟨i0,hi,a9,aa,ab⟩:=info_parts infoInt;obtain⟨f,oc,x,ah,a6,ak,q0,Y,q2,qf⟩:=h.topAt l;have s:=z8 h.blk;have O:=zi h.blk;have c2:=s 2;simp only[x]at c2;have a7:=h.lt;have ai:=h.ge;have R:a.length<M.os.length:=by rw[l];simp
 obtain⟨h1,h2,n,F⟩:=h.opens a.length R;have U:M.os[a.length]'R=m:=by simp only[l];rw[List.getElem_append_right (Nat.le_refl _)];simp
 rw[U]at n F;obtain⟨z,A,o⟩:=zl n;rw[o]at Y;have r:w.ownsRow B 3 1 (.slice z m.1.terms.length A) m.1.terms.length (m.1.terms.map Zq):=by rw[<-o];exact n
 have H:Hid (Mem w B c M y (· =0)):=h;have D:Hid (M.os=a++[m]):=l;have E:Hid (M.vo=.slice (S ⟨f,0,N⟩) (a.length+1) oc):=x;have HT:Hid (m.2.2=.slice z m.1.terms.length A):=o;have a0:Hid (m.1.terms.length+1<=maxLen):=by show _<=_;unfold maxLen;omega
 have hL:(a.length:Int)<(a.length:Int)+1:=by omega
 have f4:=O 4;have c4:w.cell? ⟨c,4,N⟩=S (.bool M.may):=s 4;clear h l x o h1 h2 n F U s O;go_enter func101,ntmps101;go_wp2_with fail;go_quiet(fail);go_wp2_with(first|(at_builtin;refine wpList_append_lies _ rfl _ _ 40 rfl B 3 i0 _ 1 8 underlying40 hi a9 aa ab rfl (by decide) _ _ _ rfl (r.alloc _) ⟨w.heap.size,0,N⟩ 1 1 [Zq e] rfl rfl ?c1 ?c2 (by decide) a0.out ?c4 ?c5 (w.heap.size+1) (by simp) ?_));case c1=>exact cell_one_new _ _ _
 case c2=>intro u X;simp at X;subst X;rfl
 case c4=>omega
 case c5=>simp;omega
 intro g ad i W p L aj;have G:=H.out.below (lab':=y) (w':=(w.drewN nq).alloc (.cells #[I J e] 3)) ((below_drewN (Below.refl _ _) nq).alloc (by simp) _) (λ_ _=>rfl);have K:=G.pushTerm D.out E.out (by simp) W (by rw[HT.out];exact p) (by rw[HT.out];simpa using L);have v:∀k,k<w.heap.size->(∀j,w.heap[k]?≠S (Obj.cells j 3 (0,0)))->i.heap[k]?=w.heap[k]?:=by
  intro k hk a8;rw[p.block k (by simp;omega) ?_];·exact zm _ _ (by simpa using hk)
  ·intro e1;obtain⟨j,d⟩:=Qw r e1.symm;exact a8 j d
 have t:i.heap[c]?=w.heap[c]?:=v c a7 (λj d=>by rw[H.out.blk]at d;simp at d);have q:i.heap[f]?=w.heap[f]?:=by have V:=H.out.op;rw[E.out]at V;obtain⟨ae,a5⟩:=Qw V (b:=f) rfl;exact v f a6 (λj d=>by rw[a5]at d;simp at d)
 have d1:i.cell? ⟨f,a.length *3+1,N⟩=S (.slice z m.1.terms.length A):=(World.cell?_of_block q).trans Y;have d2:i.frozen? ⟨f,a.length *3+1,N⟩=false:=(World.frozen?_of_block q).trans (qf _);have d3:i.cell? ⟨c,4,N⟩=S (.bool M.may):=(World.cell?_of_block t).trans c4;have d4:i.frozen? ⟨c,4,N⟩=false:=(World.frozen?_of_block t).trans f4;have Z:=(show Hid _ from K);clear G K v t q r W p L;go_wp2_with fail;obtain⟨a3,a1⟩:=Z.out;obtain⟨a4,a2⟩:=a3.setMay true;go_end0;refine⟨rfl,_,_,a4,?_,?_⟩;·exact(((KT.refl B w).drewN nq).trans (KT.alloc B _ (by simp;omega) _)).trans (a1.trans a2)
 ·simp[MV.st,ST.push,ST.setTop,ST.top,D.out,List.getLastD_concat]
theorem zik(w:World)(B f:Nat)(M:MV)(Z:Nat->Nat)(h:Mem w B f M Z (· =0))(a:List (OP×Value×Value))(m:OP×Value×Value)(i:M.os=a++[m])(e:Nat)(j:z7)(ag:YW j)(an:M.xs.length<=100000)(aC:m.1.terms.length<=100000)(aD:a.length<=100000):Calls P 101 #[.pointer (S ⟨f,0,N⟩),I J e,.string ⟨j.toArray⟩] w λe' v=>QS w B f ((M.st.add (zy (zE j) e)).push M.xs.length) (.tuple #[]) e' v:=by
 obtain⟨i0,hi,au,av,aw⟩:=info_parts infoInt;have aa:=λw=>zan j ag w;have aH:List.isEmpty j=false:=by rcases ag with rfl|rfl|rfl|rfl|rfl<;>rfl
 have a7:=λ(v:World) (ax:Nat->Nat) (G:Mem v B f M ax (· =0)) (z:Option Addr) (A:Nat) (r:M.vx=.slice z M.xs.length A) (pa:Option Addr) (pl pc:Nat)=>YG v B f z A M.xs.length M.vr M.vo M.sign M.may (M.xs.flatMap exC) (zE j) N 0 0 ⟨#[]⟩ 0 pa pl pc (by rw[<-r];exact G.blk) (by rw[<-r];exact G.ex) an G.ge;obtain⟨z,A,r⟩:=zl h.ex;have a2:B<=w.heap.size:=by have:=h.lt;have:=h.ge;omega
 have t:=h.below (w':=w.alloc (.cells #[I J e] 3)) (lab':=upd Z w.heap.size 0) (zc _ _) (λg hg=>by unfold upd;rw[if_neg (by omega)]);have a6:=a7 _ _ t z A r (S ⟨w.heap.size,0,N⟩) 1 1;have a0:=(show Hid _ from t);have HX:=(show Hid _ from r);have D:=(show Hid _ from i);clear a7 t r h;go_enter func101,ntmps101;go_wp2_with fail;refine(aa _).mono ?_;rintro E v⟨rfl,Y⟩;replace Y:=Y.symm;subst Y;clear aa;go_wp2_with fail;refine a6.mono ?_;rintro E c⟨xg,ay,rfl,a1⟩;have a9:Ints (w.alloc (.cells #[I J e] 3)) B (.slice (S ⟨w.heap.size,0,N⟩) 1 1) [e]:=World.ownsRow_lit w #[I J e] 1 a2 (by decide) rfl;have F:=a0.out.add (re:=zy (zE j) e) (iv:=.slice N 0 0) (pv:=.slice (S ⟨w.heap.size,0,N⟩) 1 1) (by rw[HX.out];exact a1) (World.ownsRow_nil _ _ _ _) a9 (λb hb=>by simp[Value.ownBlock]at hb;subst hb;simp[upd]);obtain⟨h,a3⟩:=F;have ai:Hid (KT B w c):=(KT.alloc B w a2 _).trans a3;have i:M.os=a++[m]:=D.out;obtain⟨d,n⟩:∃d,d=({M with vx:=.slice (S ⟨xg,0,N⟩) (M.xs.length+1) ay,xs:=M.xs++[(zy (zE j) e,.slice N 0 0,.slice (S ⟨w.heap.size,0,N⟩) 1 1)]}:MV):=⟨_,rfl⟩;rw[<-n]at h;have L:d.os=a++[m]:=by rw[n];exact i
 have ak:Hid (d.st=M.st.add (zy (zE j) e)):=by rw[n];show _=_;simp[MV.st,ST.add]
 have az:Hid (d.xs.length=M.xs.length+1):=by rw[n];show _=_;simp
 have D:=L;clear a1 a3 a9 a6 n i a0 HX;obtain⟨ah,ab⟩:∃l,l=upd Z w.heap.size 0:=⟨_,rfl⟩;rw[<-ab]at h;clear ab;have i:=L;clear L D;obtain⟨p,oc,X,aE,ap,aI,q0,q1,q2,qf⟩:=h.topAt i;have U:=z8 h.blk;have hf:=zi h.blk;have c2:=U 2;simp only[X]at c2;have aq:=h.lt;have aF:=h.ge;have ad:a.length<d.os.length:=by rw[i];simp
 obtain⟨h1,F,x,h4⟩:=h.opens a.length ad;have hm:d.os[a.length]'ad=m:=by simp only[i];rw[List.getElem_append_right (Nat.le_refl _)];simp
 rw[hm]at x h4;obtain⟨ta,tc,y⟩:=zl x;rw[y]at q1;have R:c.ownsRow B 3 1 (.slice ta m.1.terms.length tc) m.1.terms.length (m.1.terms.map Zq):=by rw[<-y];exact x
 have H:Hid (Mem c B f d ah (· =0)):=h;have HO:Hid (d.os=a++[m]):=i;have HV:Hid (d.vo=.slice (S ⟨p,0,N⟩) (a.length+1) oc):=X;have HT:Hid (m.2.2=.slice ta m.1.terms.length tc):=y;have aj:Hid (m.1.terms.length+1<=maxLen):=by show _<=_;unfold maxLen;omega
 have hL:(a.length:Int)<(a.length:Int)+1:=by omega
 have f4:=hf 4;have c4:c.cell? ⟨f,4,N⟩=S (.bool d.may):=U 4;clear h i X y h1 F x h4 hm U hf;go_wp2_with fail;go_quiet(fail);go_wp2_with(first|(at_builtin;refine wpList_append_lies _ rfl _ _ 40 rfl B 3 i0 _ 1 8 underlying40 hi au av aw rfl (by decide) _ _ _ rfl (R.alloc _) ⟨c.heap.size,0,N⟩ 1 1 [Zq M.xs.length] rfl rfl ?c1 ?c2 (by decide) aj.out ?c4 ?c5 (c.heap.size+1) (by simp) ?_));case c1=>exact cell_one_new _ _ _
 case c2=>intro u hu;simp at hu;subst hu;rfl
 case c4=>omega
 case c5=>simp;omega
 intro g aA q af K a8 aG;have a4:=H.out.below (lab':=ah) (w':=(c.drewN nq).alloc (.cells #[I J M.xs.length] 3)) ((below_drewN (Below.refl _ _) nq).alloc (by simp) _) (λ_ _=>rfl);have a5:=a4.pushTerm HO.out HV.out (by simp) af (by rw[HT.out];exact K) (by rw[HT.out];simpa using a8);have W:∀k,k<c.heap.size->(∀s,c.heap[k]?≠S (Obj.cells s 3 (0,0)))->q.heap[k]?=c.heap[k]?:=by
  intro k hk ar;rw[K.block k (by simp;omega) ?_];·exact zm _ _ (by simpa using hk)
  ·intro E;obtain⟨s,o⟩:=Qw R E.symm;exact ar s o
 have V:q.heap[f]?=c.heap[f]?:=W f aq (λs o=>by rw[H.out.blk]at o;simp at o);have O:q.heap[p]?=c.heap[p]?:=by have ae:=H.out.op;rw[HV.out]at ae;obtain⟨aB,ao⟩:=Qw ae (b:=p) rfl;exact W p ap (λs o=>by rw[ao]at o;simp at o)
 have d1:q.cell? ⟨p,a.length *3+1,N⟩=S (.slice ta m.1.terms.length tc):=(World.cell?_of_block O).trans q1;have d2:q.frozen? ⟨p,a.length *3+1,N⟩=false:=(World.frozen?_of_block O).trans (qf _);have d3:q.cell? ⟨f,4,N⟩=S (.bool d.may):=(World.cell?_of_block V).trans c4;have d4:q.frozen? ⟨f,4,N⟩=false:=(World.frozen?_of_block V).trans f4;have HE:=(show Hid _ from a5);clear a4 a5 W V O R af K a8;go_wp2_with fail;obtain⟨t,al⟩:=HE.out;obtain⟨n,am⟩:=t.setMay true;go_end0;refine⟨rfl,_,_,n,?_,?_⟩;·exact ai.out.trans ((((KT.refl B c).drewN nq).trans (KT.alloc B _ (by simp;omega) _)).trans (al.trans am))
 ·rw[<-ak.out];simp[MV.st,ST.push,ST.setTop,ST.top,HO.out,List.getLastD_concat]
theorem Mem.weaken{w:World}{B c:Nat}{M:MV}{b:Nat->Nat}{P P':Nat->Prop}(h:Mem w B c M b P)(e:∀l,P l->P' l):Mem w B c M b P':=⟨h.ge,h.blk,h.ex,h.ru,h.op,h.items,λp a=>⟨(h.parts p a).1,λg d=>e _ ((h.parts p a).2 g d)⟩,h.opens⟩
theorem Mem.topCells{w:World}{B u:Nat}{M:MV}{e:Nat->Nat}{P:Nat->Prop}(h:Mem w B u M e P){a:List (OP×Value×Value)}{m:OP×Value×Value}(c:M.os=a++[m]){b p:Nat}(j:M.vo=.slice (S ⟨b,0,N⟩) (a.length+1) p):b<w.heap.size/\w.cell? ⟨b,a.length *3,N⟩=S m.2.1/\w.cell? ⟨b,a.length *3+1,N⟩=S m.2.2/\w.cell? ⟨b,a.length *3+2,N⟩=S (.string ⟨m.1.sign.toArray⟩)/\(∀o,w.frozen? ⟨b,o,N⟩=false)/\(∃k,w.heap[b]?=S (.cells k 209 (0,0)))/\Ints w B m.2.1 m.1.seqs/\Lab e m.2.1 (2 *a.length+1)/\Ints w B m.2.2 m.1.terms/\Lab e m.2.2 (2 *a.length+2):=by
 obtain⟨x,v,d,_,n,_,q,r,s,t⟩:=h.topAt c;rw[j]at d;simp at d;obtain⟨rfl,rfl⟩:=d;have i:=h.op;rw[j]at i;have g:a.length<M.os.length:=by rw[c];simp
 have l:M.os[a.length]'g=m:=by simp only[c];rw[List.getElem_append_right (Nat.le_refl _)];simp
 have f:=h.opens a.length g;rw[l]at f;exact⟨n,q,r,s,t,Qw i rfl,f⟩
theorem Mem.pushSeq{w u:World}{B F:Nat}{M:MV}{r:Nat->Nat}{P:Nat->Prop}(h:Mem w B F M r P){f:List (OP×Value×Value)}{m:OP×Value×Value}(y:M.os=f++[m]){s oc:Nat}(hv:M.vo=.slice (S ⟨s,0,N⟩) (f.length+1) oc)(hP:¬P (2 *f.length+1)){e g j:Nat}(a7:u.ownsRow B 3 1 (.slice (S ⟨g,0,N⟩) (m.1.seqs.length+1) j) (m.1.seqs.length+1) (m.1.seqs.map Zq++[Zq e]))(n:w.grownBy u m.2.1.ownBlock)(z:m.2.1.ownBlock=S g\/g=w.heap.size):Mem (u.setCell ⟨s,f.length *3,N⟩ (.slice (S ⟨g,0,N⟩) (m.1.seqs.length+1) j)) B F {M with os:=f++[({m.1 with seqs:=m.1.seqs++[e]},.slice (S ⟨g,0,N⟩) (m.1.seqs.length+1) j,m.2.2)]} (upd r g (2 *f.length+1)) P/\KT B w (u.setCell ⟨s,f.length *3,N⟩ (.slice (S ⟨g,0,N⟩) (m.1.seqs.length+1) j)):=by
 have Z:f.length<M.os.length:=by rw[y];simp
 obtain⟨G,H,W,X⟩:=h.opens f.length Z;have hm:M.os[f.length]'Z=m:=by simp only[y];rw[List.getElem_append_right (Nat.le_refl _)];simp
 rw[hm]at G H W X;have a8:∀a l,a<w.heap.size->r a=l->(a=g->l=2 *f.length+1)->upd r g (2 *f.length+1) a=l:=by
  intro a l d a4 a1;unfold upd;by_cases K:a=g;·rw[if_pos K,a1 K]
  ·rw[if_neg K];exact a4
 have a2:∀a,a<w.heap.size->a=g->r a=2 *f.length+1:=by
  intro a d v;rcases z with z|z;·rw[v];exact H g z
  ·omega
 have D:∀a,a<w.heap.size->upd r g (2 *f.length+1) a=r a:=λa d=>a8 a _ d rfl (a2 a d);obtain⟨L,O,g3,x,R,U,V,g8⟩:=h.grown G n _ H hP;have c:=Chg.set s (f.length *3) (.slice (S ⟨g,0,N⟩) (m.1.seqs.length+1) j) u;have a5:M.os.length=f.length+1:=by rw[y];simp
 rw[a5,hv]at x;obtain⟨cs,i⟩:=Qw x (b:=s) rfl;have a6:F≠s:=by intro v;subst v;have:=zn x L (by decide);simp[Value.ownBlock]at this
 have A:=(x.stored (f.length *3) (.slice (S ⟨g,0,N⟩) (m.1.seqs.length+1) j)).1;have aa:=n.size;refine⟨⟨h.ge,by rw[c.same F (by have:=h.lt;omega) a6];exact L,zq c O (zn O i (by decide)),zq c g3 (zn g3 i (by decide)),?_,λp o=>zq c (R p o) (zn (R p o) i (by decide)),λp o=>⟨zq c (U p o) (zn (U p o) i (by decide)),λa d=>by rw[D a ((h.parts p o).1.lt a d).2];exact(h.parts p o).2 a d⟩,?_⟩,?_⟩;·simp only[hv,List.length_append,List.length_singleton];have A:=A;rw[y,show f.length *3=f.length *3+0 from rfl,zag f m 0 (by decide)]at A;simpa[opC]using A
 ·intro k J;simp only[]at J|-;by_cases Y:k<f.length;·rw[List.getElem_append_left Y];obtain⟨i1,i2,i3,i4⟩:=h.opens k (by omega);obtain⟨E,q⟩:=V k (by omega);simp only[y,List.getElem_append_left Y]at i1 i2 i3 i4 E q;exact⟨zq c (E (by omega)) (zn (E (by omega)) i (by decide)),λa d=>by rw[D a (i1.lt a d).2];exact i2 a d,zq c (q (by omega)) (zn (q (by omega)) i (by decide)),λa d=>by rw[D a (i3.lt a d).2];exact i4 a d⟩
  ·have a3:k=f.length:=by simp at J;omega
   subst a3;rw[List.getElem_append_right (Nat.le_refl _)];simp only[Nat.sub_self,List.getElem_cons_zero];obtain⟨E,q⟩:=V f.length (by omega);rw[hm]at q;have a0:Ints u B (.slice (S ⟨g,0,N⟩) (m.1.seqs.length+1) j) (m.1.seqs++[e]):=by unfold Ints;simpa using a7
   exact⟨zq c a0 (zn a0 i (by decide)),λa d=>by simp[Value.ownBlock]at d;subst d;simp[upd],zq c (q (by omega)) (zn (q (by omega)) i (by decide)),λa d=>by rw[D a (W.lt a d).2];exact X a d⟩
 ·refine KT.trans ⟨n.os,n.tape,n.output,n.size,?_,g8⟩ (KT.chg c (by have:=h.lt;have:=h.ge;omega) (x.lt s rfl).1 (λa9 t fr d=>by rw[i]at d;simp at d;rw[<-d.2.1];decide));intro k J;refine n.block k (by have:=h.lt;have:=h.ge;omega) (λv=> ?_);have:=(G.lt k v.symm).1;omega
theorem Mem.nilTerms{w:World}{B t:Nat}{M:MV}{i:Nat->Nat}{a:List (OP×Value×Value)}(h:Mem w B t M i (λl=>l=0\/l=2 *a.length+2)){m:OP×Value×Value}(e:M.os=a++[m]){j G:Nat}(D:M.vo=.slice (S ⟨j,0,N⟩) (a.length+1) G):Mem (w.setCell ⟨j,a.length *3+1,N⟩ (.slice N 0 0)) B t {M with os:=a++[({m.1 with terms:=[]},m.2.1,.slice N 0 0)]} (λb=>if i b=2 *a.length+2 then 0 else i b) (· =0)/\KT B w (w.setCell ⟨j,a.length *3+1,N⟩ (.slice N 0 0)):=by
 have q:a.length<M.os.length:=by rw[e];simp
 have z:M.os[a.length]'q=m:=by simp only[e];rw[List.getElem_append_right (Nat.le_refl _)];simp
 obtain⟨n,o,u,v⟩:=h.opens a.length q;rw[z]at n o u v;refine h.setTop e D 1 (by decide) (.slice N 0 0) (by simp[opC]) _ _ ?_ ?_ ?_ ?_
 ·intro p A g x _;rcases(h.parts p A).2 g x with f|f;·simp only[f];split<;>rfl
  ·simp only[f,if_true]
 ·intro k y;obtain⟨E,r,F,s⟩:=h.opens k (by omega);simp only[e,List.getElem_append_left y]at E r F s;refine⟨λb c=> ?_,λb c=> ?_⟩;·have d:=r b c;simp only[];rw[d,if_neg (by omega)]
  ·have d:=s b c;simp only[];rw[d,if_neg (by omega)]
 ·exact⟨n,λb c=>by have d:=o b c;simp only[];rw[d,if_neg (by omega)]⟩
 ·exact⟨World.ownsRow_nil _ _ _ _,λb c=>by simp[Value.ownBlock]at c⟩
theorem Mem.drew{w:World}{B b:Nat}{M:MV}{a:Nat->Nat}{P:Nat->Prop}(h:Mem w B b M a P):Mem w.drew B b M a P:=h.below (Below.refl _ _).drew (λ_ _=>rfl)
theorem Mem.drewN{w:World}{B b:Nat}{M:MV}{a:Nat->Nat}{P:Nat->Prop}(h:Mem w B b M a P)(q:Nat):Mem (w.drewN q) B b M a P:=h.below (below_drewN (Below.refl _ _) q) (λ_ _=>rfl)
theorem zcs(w:World)(B f:Nat)(M:MV)(R:Nat->Nat)(h:Mem w B f M R (· =0))(c:List (OP×Value×Value))(a:OP×Value×Value)(r:M.os=c++[a])(aj:M.xs.length<=100000)(ao:a.1.seqs.length<=100000)(ap:c.length<=100000):Calls P 141 #[.pointer (S ⟨f,0,N⟩)] w λe' w'=>QS w B f M.st.slash (.tuple #[]) e' w':=by
 obtain⟨i0,hi,ak,al,am⟩:=info_parts infoInt;obtain⟨d,oc,t,aq,av,aw,q0,q1,q2,qf⟩:=h.topAt r;have c2:w.cell? ⟨f,2,N⟩=S M.vo:=z8 h.blk 2;rw[t]at c2;obtain⟨h1,A,X,h4⟩:=(h.topCells r t).2.2.2.2.2.2;obtain⟨ta,tc,K⟩:=zl X;rw[K]at q1;obtain⟨xa,xc,x⟩:=zl h.ex;have a2:=λq=>YG (w.drewN q) B f xa xc M.xs.length M.vr M.vo M.sign M.may (M.xs.flatMap exC) 5 N 0 0 ⟨#[]⟩ 0 ta a.1.terms.length tc (by rw[<-x];exact(h.drewN q).blk) (by rw[<-x];exact(h.drewN q).ex) aj h.ge;have ax:=h.lt;have ar:=h.ge;have hL:(c.length:Int)<(c.length:Int)+1:=by omega
 have H:Hid (Mem w B f M R (· =0)):=h;have n:Hid (M.os=c++[a]):=r;have z:Hid (M.vo=.slice (S ⟨d,0,N⟩) (c.length+1) oc):=t;have HT:Hid (a.2.2=.slice ta a.1.terms.length tc):=K;have HX:=(show Hid _ from x);have a8:Hid (a.1.seqs.length+1<=maxLen):=by show _<=_;unfold maxLen;omega
 clear h r t K h1 A X h4 x q0 q2;go_enter func141,ntmps141;go_wp2_with fail;go_quiet(fail);go_wp2_with fail;refine(a2 _).mono ?_;rintro p e⟨xg,an,rfl,Y⟩;have A:=((H.out.drewN nq).weaken (P':=λl=>l=0\/l=2 *c.length+2) (λl hl=>.inl hl)).add (re:=⟨5,[],[],0,a.1.terms⟩) (iv:=.slice N 0 0) (pv:=a.2.2) (by rw[HX.out,HT.out];exact Y) (World.ownsRow_nil _ _ _ _) ((H.out.drewN nq).topCells n.out z.out).2.2.2.2.2.2.2.2.1 (λb hb=>.inr (((H.out.drewN nq).topCells n.out z.out).2.2.2.2.2.2.2.2.2 b hb));obtain⟨j,Z⟩:=A;have a6:Hid (KT B w e):=((KT.refl B w).drewN nq).trans Z;obtain⟨i,k⟩:∃i,i=({M with vx:=.slice (S ⟨xg,0,N⟩) (M.xs.length+1) an,xs:=M.xs++[(⟨5,[],[],0,a.1.terms⟩,.slice N 0 0,a.2.2)]}:MV):=⟨_,rfl⟩;rw[<-k]at j;have E:i.os=c++[a]:=by rw[k];exact n.out
 have G:i.vo=.slice (S ⟨d,0,N⟩) (c.length+1) oc:=by rw[k];exact z.out
 have ab:Hid (i.st=M.st.add ⟨5,[],[],0,a.1.terms⟩):=by rw[k];show _=_;simp[MV.st,ST.add]
 obtain⟨k0,L,k2,k3,kf,⟨ay,a4⟩,O,k5,k6,k7⟩:=j.topCells E G;obtain⟨sa,sc,v⟩:=zl O;rw[v]at L;have F:e.ownsRow B 3 1 (.slice sa a.1.seqs.length sc) a.1.seqs.length (a.1.seqs.map Zq):=by rw[<-v];exact O
 have V:=(show Hid _ from v);have a7:=(show Hid _ from j);have U:=(show Hid _ from E);have W:=(show Hid _ from G);have a9:=(show Hid _ from a4);have ae:B<=e.heap.size:=by have:=j.lt;omega
 clear a2 Y Z j k E G v O k5 k6 k7 k3 q1 a4;go_wp2_with(first|(at_builtin;refine wpList_append_lies _ rfl _ _ 40 rfl B 3 i0 _ 1 8 underlying40 hi ak al am rfl (by decide) _ _ _ rfl (F.alloc _) ⟨e.heap.size,0,N⟩ 1 1 [Zq M.xs.length] rfl rfl ?c1 ?c2 (by decide) a8.out ?c4 ?c5 (e.heap.size+1) (by simp) ?_));case c1=>exact cell_one_new _ _ _
 case c2=>intro u hu;simp at hu;subst hu;rfl
 case c4=>omega
 case c5=>simp;omega
 intro g ad y a5 D a3 au;have a0:=a7.out.below (lab':=R) (w':=e.alloc (.cells #[I J M.xs.length] 3)) (zc _ _) (λ_ _=>rfl);have a1:=a0.pushSeq U.out W.out (by simp) a5 (by rw[V.out];exact D) (by rw[V.out];simpa using a3);have s:y.heap[d]?=e.heap[d]?:=by rw[D.block d (by simp;omega) (λp=>zn F a9.out (by decide) p.symm)];exact zm _ _ k0
 have d0:y.cell? ⟨d,c.length *3,N⟩=S (.slice sa a.1.seqs.length sc):=(World.cell?_of_block s).trans L;have d1:y.cell? ⟨d,c.length *3+1,N⟩=S a.2.2:=(World.cell?_of_block s).trans k2;have df:∀o,y.frozen? ⟨d,o,N⟩=false:=λo=>(World.frozen?_of_block s).trans (kf _);have aa:=(show Hid _ from a1);clear a0 a1 s F a5 D a3 L k2 kf;go_wp2_with fail;obtain⟨ah,af⟩:=aa.out;obtain⟨ai,ag⟩:=ah.nilTerms (m:=({a.1 with seqs:=a.1.seqs++[M.xs.length]},.slice (S ⟨g,0,N⟩) (a.1.seqs.length+1) ad,a.2.2)) rfl W.out;go_end0;refine⟨rfl,_,_,ai,?_,?_⟩;·exact a6.out.trans ((KT.alloc B e ae _).trans (af.trans ag))
 ·have p:M.st.top=a.1:=by simp[MV.st,ST.top,n.out,List.getLastD_concat]
  have e2:M.st.xs.length=M.xs.length:=by simp[MV.st]
  unfold ST.slash;rw[p,e2, <-ab.out];simp[MV.st,ST.setTop,U.out]
theorem zbZ{M:MV}{l:List OP}{o:OP}(h:M.st.os=l++[o]):∃c m,M.os=c++[m]/\c.map (·.1)=l/\m.1=o:=by
 have b:M.os.map (·.1)=l++[o]:=h;rw[List.map_eq_append_iff]at b;obtain⟨f,g,d,e,a⟩:=b;match g,a with
 |[m],a=>exact⟨f,m,d,e,by simpa using a⟩
theorem Mem.pop{w:World}{B n:Nat}{M:MV}{d:Nat->Nat}(h:Mem w B n M d (· =0)){a:List (OP×Value×Value)}{m:OP×Value×Value}(o:M.os=a++[m]){j i:Nat}(z:M.vo=.slice (S ⟨j,0,N⟩) (a.length+1) i):Mem (w.setCell ⟨n,2,N⟩ (.slice (S ⟨j,0,N⟩) a.length i)) B n {M with vo:=.slice (S ⟨j,0,N⟩) a.length i,os:=a} (λb=>if d b=2 *a.length+1 then 0 else d b) (· =0)/\KT B w (w.setCell ⟨n,2,N⟩ (.slice (S ⟨j,0,N⟩) a.length i))/\Ints (w.setCell ⟨n,2,N⟩ (.slice (S ⟨j,0,N⟩) a.length i)) B m.2.1 m.1.seqs/\Lab (λb=>if d b=2 *a.length+1 then 0 else d b) m.2.1 0:=by
 have c:=Chg.set n 2 (.slice (S ⟨j,0,N⟩) a.length i) w;have K:a.length<M.os.length:=by rw[o];simp
 obtain⟨u,E,H,J⟩:=(h.topCells o z).2.2.2.2.2.2;have x:=h.op;rw[z,o]at x;have y:w.ownsRow B 209 3 (.slice (S ⟨j,0,N⟩) a.length i) a.length (a.flatMap opC):=by refine ownsRow_pop (last:=opC m) (by rw[VK]) ?_;simpa using x
 refine⟨⟨h.ge,by rw[Jo h.blk];rfl,zq c h.ex (zn h.ex h.blk (by decide)),zq c h.ru (zn h.ru h.blk (by decide)),zq c y (zn y h.blk (by decide)),λp l=>zq c (h.items p l) (zn (h.items p l) h.blk (by decide)),λp l=>⟨zq c (h.parts p l).1 (zn (h.parts p l).1 h.blk (by decide)),λg q=> ?_⟩,?_⟩,KT.chg c (by have:=h.lt;have:=h.ge;omega) h.ge (λF t G f=>by rw[h.blk]at f;simp at f;rw[<-f.2.1];decide),zq c u (zn u h.blk (by decide)),λg q=> ?_⟩;·have e:d g=0:=(h.parts p l).2 g q;show(if d g=_ then 0 else d g)=0;rw[e];split<;>rfl
 ·intro k v;simp only[]at v|-;obtain⟨r,A,s,D⟩:=h.opens k (by omega);simp only[o,List.getElem_append_left v]at r A s D;refine⟨zq c r (zn r h.blk (by decide)),λb f=> ?_,zq c s (zn s h.blk (by decide)),λb f=> ?_⟩;·have e:=A b f;simp only[];rw[e,if_neg (by omega)]
  ·have e:=D b f;simp only[];rw[e,if_neg (by omega)]
 ·have e:=E g q;simp only[];rw[e,if_pos rfl]
theorem zcb(w:World)(B g:Nat)(a:MV)(ag:Nat->Nat)(h:Mem w B g a ag (· =0))(q:List (OP×Value×Value))(d:OP×Value×Value)(j:a.os=q++[d])(aK:a.xs.length<=90000)(aL:d.1.seqs.length<=90000)(aM:q.length<=90000):Calls P 140 #[.pointer (S ⟨g,0,N⟩)] w λe' w'=>QS w B g a.st.closed (.tuple #[I J ↑(a.xs.length+1),.string ⟨d.1.sign.toArray⟩]) e' w':=by
 have ab:=zcs w B g a ag h q d j (by omega) (by omega) (by omega);have r:a.st.top=d.1:=by simp[MV.st,ST.top,j,List.getLastD_concat]
 have E:a.st.xs.length=a.xs.length:=by simp[MV.st]
 have ad:a.st.slash.os=q.map (·.1)++[⟨d.1.seqs++[a.xs.length],[],d.1.sign⟩]:=by unfold ST.slash;rw[r,E];simp[MV.st,ST.setTop,ST.add,j]
 have ah:Hid (a.st.closed=({a.st.slash with os:=q.map (·.1)}:ST).add ⟨6,[],[],0,d.1.seqs++[a.xs.length]⟩):=by show _=_;unfold ST.closed;rw[r,E,show a.st.os.dropLast=q.map (·.1)from by simp[MV.st,j]]
 have ae:a.st.slash.xs.length=a.xs.length+1:=by unfold ST.slash;simp[ST.setTop,ST.add,MV.st]
 have au:=(show Hid _ from ad);have aw:=(show Hid _ from ae);clear h j ad r E ae;go_enter func140,ntmps140;go_wp2_with fail;refine ab.mono ?_;rintro r c⟨rfl,o,U,n,a2,z⟩;obtain⟨e,m,j,L,K⟩:=zbZ (M:=o) (by rw[z];exact au.out);have aD:o.xs.length=a.xs.length+1:=by have:=aw.out;rw[<-z]at this;simpa[MV.st]using this
 have az:e.length=q.length:=by rw[<-List.length_map (f:=(·.1)),L];simp
 have aJ:e.length<=90000:=by omega
 have aC:=n.lt;have aP:=n.ge;obtain⟨t,s,x,aO,aQ,aR,q0,q1,q2,qf⟩:=n.topAt j;have V:c.cell? ⟨g,2,N⟩=S o.vo:=z8 n.blk 2;have f2:c.frozen? ⟨g,2,N⟩=false:=zi n.blk 2;rw[x]at V;obtain⟨X,h2,Y,h4⟩:=(n.topCells j x).2.2.2.2.2.2;have aa:m.1.seqs=d.1.seqs++[a.xs.length]:=by rw[K]
 have af:m.1.sign=d.1.sign:=by rw[K]
 obtain⟨A,D,O⟩:=zl X;obtain⟨ta,tc,R⟩:=zl Y;rw[O]at q0;rw[R]at q1;rw[af]at q2;have hL:(e.length:Int)<(e.length:Int)+1:=by omega
 have aN:(e.length:Int)<=(s:Int):=by
  have a9:=n.op;rw[x,j]at a9;rcases a9.2 with⟨k,_⟩|⟨g',aH,aI,k,_,_,aA,_⟩;·simp at k
  ·simp at k;obtain⟨_,rfl⟩:=k;simp at aA;omega
 have am:Hid (Mem c B g o U (· =0)):=n;have HO:Hid (o.os=e++[m]):=j;have HV:Hid (o.vo=.slice (S ⟨t,0,N⟩) (e.length+1) s):=x;have ax:=(show Hid _ from O);have aG:=(show Hid _ from R);have ar:=(show Hid _ from aa);have aq:Hid (o.st=a.st.slash):=z;have ay:=(show Hid _ from aD);have an:=(show Hid _ from L);have aj:=(show Hid _ from a2);clear ab n j x O R aa z K af L a2 az X h2 Y h4;go_wp2_with fail;go_region;go_wp2_with fail;go_region;go_wp2_with fail;have aB:=am.out.pop HO.out HV.out;obtain⟨a5,a4,a1,F⟩:=aB;generalize u:((c.setCell ⟨g,2,N⟩ (.slice (S ⟨t,0,N⟩) e.length s)).alloc (.cells #[.slice A m.1.seqs.length D,.slice ta m.1.terms.length tc,.string ⟨d.1.sign.toArray⟩] 209)).drew.drew=W;have G:Below (c.setCell ⟨g,2,N⟩ (.slice (S ⟨t,0,N⟩) e.length s)).heap.size (c.setCell ⟨g,2,N⟩ (.slice (S ⟨t,0,N⟩) e.length s)) W:=by rw[<-u];exact((zc _ _).drew).drew
 have p:=a5.below G (λ_ _=>rfl);have a0:Ints W B m.2.1 m.1.seqs:=Zv a1 G;have a3:KT B c W:=by rw[<-u];exact((a4.trans (KT.alloc B _ (by simp;omega) _)).drew).drew
 have v:W.heap[c.heap.size]?=S (.cells #[.slice A m.1.seqs.length D,.slice ta m.1.terms.length tc,.string ⟨d.1.sign.toArray⟩] 209 (0,0)):=by rw[<-u];show((c.setCell _ _).alloc _).heap[_]?=_;rw[show c.heap.size=(c.setCell ⟨g,2,N⟩ (.slice (S ⟨t,0,N⟩) e.length s)).heap.size from by simp];exact heap_alloc_new _ _
 have aT:W.heap.size=c.heap.size+1:=by rw[<-u];show((c.setCell _ _).alloc _).heap.size=_;simp
 clear u G a5 a4 a1 V f2 q0 q1 q2 qf;obtain⟨i,y⟩:∃i,i=({o with vo:=.slice (S ⟨t,0,N⟩) e.length s,os:=e}:MV):=⟨_,rfl⟩;obtain⟨aE,H⟩:∃l,l=(λb=>if U b=2 *e.length+1 then 0 else U b):=⟨_,rfl⟩;rw[<-y, <-H]at p;rw[<-H]at F;have aU:i.xs.length=a.xs.length+1:=by rw[y];exact ay.out
 have av:Hid (i.st=({a.st.slash with os:=q.map (·.1)}:ST)):=by show _=_;rw[y, <-aq.out, <-an.out];rfl
 obtain⟨xa,xc,k⟩:=zl p.ex;have a6:=YG W.drew B g xa xc i.xs.length i.vr i.vo i.sign i.may (i.xs.flatMap exC) 6 N 0 0 ⟨#[]⟩ 0 A m.1.seqs.length D (by rw[<-k];exact p.blk) (by rw[<-k];exact p.ex) (by omega) p.ge;simp only[show((6:Nat):Int)=6 from rfl]at a6;have o0:W.cell? ⟨c.heap.size,0,N⟩=S (.slice A m.1.seqs.length D):=z8 v 0;have o2:W.cell? ⟨c.heap.size,2,N⟩=S (.string ⟨d.1.sign.toArray⟩):=z8 v 2;have ao:Hid (Mem W B g i aE (· =0)):=p;have ai:=(show Hid _ from a0);have al:=(show Hid _ from F);have ak:=(show Hid _ from a3);have aF:=(show Hid _ from v);have HX:=(show Hid _ from k);have a8:S c.heap.size≠(Value.slice xa i.xs.length xc).ownBlock:=λr=>by have:=zn p.ex v (by decide);rw[k]at this;exact this r.symm
 have ap:=(show Hid _ from a8);have aS:g<c.heap.size:=aC;clear p a0 F a3 v y H k a8;go_region_with(go_at_call 102;go_loud(refine a6.mono ?_;rintro r w2⟨xg,aV,rfl,Z⟩;have y2:w2.cell? ⟨c.heap.size,2,N⟩=S (.string ⟨d.1.sign.toArray⟩):=(World.cell?_of_block (Z.same c.heap.size (by simp;omega) (by omega) ap.out)).trans o2));all_goals go_wp2_with fail
 all_goals
  have a7:=ao.out.drew.add (re:=⟨6,[],[],0,m.1.seqs⟩) (iv:=.slice N 0 0) (pv:=m.2.1) (by rw[HX.out,ax.out];exact Z) (World.ownsRow_nil _ _ _ _) ai.out (λb hb=>al.out b hb);go_ret2;refine⟨rfl,_,_,a7.1,?_,?_⟩;·exact aj.out.trans (ak.out.trans ((KT.refl B W).drew.trans a7.2))
  ·rw[ah.out, <-av.out, <-ar.out];simp[MV.st,ST.add]
theorem zbx(a:List (RE×Value×Value))(i j:Nat)(b:i<a.length)(e:j<5):(a.flatMap exC)[i *5+j]?=(exC a[i])[j]?:=by
 induction a generalizing i with
 |nil=>simp at b
 |cons p a d=>
  have c:(exC p).length=5:=rfl;cases i with
  |zero=>simp only[List.flatMap_cons,Nat.zero_mul,Nat.zero_add,List.getElem_cons_zero];rw[List.getElem?_append_left (by omega)]|succ i=>simp only[List.flatMap_cons,List.getElem_cons_succ];rw[List.getElem?_append_right (by omega),c,show(i+1) *5+j-5=i *5+j from by omega];exact d i (by simpa using b)
theorem zby(a:List (RE×Value×Value))(i j:Nat)(c:i<a.length)(f:j<5)(u:Value)(q:RE×Value×Value)(b:(exC a[i]).set j u=exC q):(a.flatMap exC).set (i *5+j) u=(a.set i q).flatMap exC:=by
 induction a generalizing i with
 |nil=>simp at c
 |cons p a e=>
  have d:(exC p).length=5:=rfl;cases i with
  |zero=>simp only[List.flatMap_cons,Nat.zero_mul,Nat.zero_add,List.set_cons_zero];rw[List.set_append_left _ _ (by omega)];simp only[List.getElem_cons_zero]at b;rw[b]|succ i=>simp only[List.flatMap_cons,List.set_cons_succ];rw[List.set_append_right _ _ (by omega),d,show(i+1) *5+j-5=i *5+j from by omega];simp only[List.getElem_cons_succ]at b;rw[e i (by simpa using c) b]
theorem Mem.exAt{w:World}{B q:Nat}{M:MV}{p:Nat->Nat}{P:Nat->Prop}(h:Mem w B q M p P)(n:0<M.xs.length):∃a d,M.vx=.slice (S ⟨a,0,N⟩) M.xs.length d/\B<=a/\a<w.heap.size/\(∃g,w.heap[a]?=S (.cells g 149 (0,0)))/\(∀o,w.frozen? ⟨a,o,N⟩=false)/\∀k (e:k<M.xs.length),w.cell? ⟨a,k *5,N⟩=S (I J M.xs[k].1.kind)/\w.cell? ⟨a,k *5+1,N⟩=S M.xs[k].2.1/\w.cell? ⟨a,k *5+2,N⟩=S (.string ⟨M.xs[k].1.text.toArray⟩)/\w.cell? ⟨a,k *5+3,N⟩=S (I J M.xs[k].1.rule)/\w.cell? ⟨a,k *5+4,N⟩=S M.xs[k].2.2:=by
 have c:=h.ex;obtain⟨a,d,f,i,m⟩:=c.form n;rw[f]at c;refine⟨a,d,f,i,m,Qw c rfl,λo=>c.frozenAt o,λk e=> ?_⟩;have b:∀j,j<5->w.cell? ⟨a,k *5+j,N⟩=(exC M.xs[k])[j]?:=λj l=>by rw[c.cellAt _ (by omega),zbx _ _ _ e l]
 exact⟨b 0 (by decide),b 1 (by decide),b 2 (by decide),b 3 (by decide),b 4 (by decide)⟩
theorem Mem.setParts{w:World}{B l:Nat}{M:MV}{n:Nat->Nat}(h:Mem w B l M n (· =0)){k:Nat}(r:k<M.xs.length){xg xc:Nat}(v:M.vx=.slice (S ⟨xg,0,N⟩) M.xs.length xc){a:Value}{g:List Nat}(i:Ints w B a g)(D:Lab n a 0):Mem (w.setCell ⟨xg,k *5+4,N⟩ a) B l {M with xs:=M.xs.set k ({M.xs[k].1 with parts:=g},M.xs[k].2.1,a)} n (· =0)/\KT B w (w.setCell ⟨xg,k *5+4,N⟩ a):=by
 have c:=Chg.set xg (k *5+4) a w;have f:=h.ex;rw[v]at f;obtain⟨F,e⟩:=Qw f (b:=xg) rfl;have E:l≠xg:=by intro x;subst x;have:=zn f h.blk (by decide);simp[Value.ownBlock]at this
 have u:=(f.stored (k *5+4) a).1;rw[zby M.xs k 4 r (by decide) a ({M.xs[k].1 with parts:=g},M.xs[k].2.1,a) rfl]at u;have s:∀p∈M.xs.set k ({M.xs[k].1 with parts:=g},M.xs[k].2.1,a),p∈M.xs\/p=({M.xs[k].1 with parts:=g},M.xs[k].2.1,a):=λp i=>List.mem_or_eq_of_mem_set i;refine⟨⟨h.ge,by rw[c.same l h.lt E];exact h.blk,?_,zq c h.ru (zn h.ru e (by decide)),zq c h.op (zn h.op e (by decide)),?_,?_,?_⟩,KT.chg c (by have:=h.lt;have:=h.ge;omega) (f.lt xg rfl).1 (λG t H m=>by rw[e]at m;simp at m;rw[<-m.2.1];decide)⟩;·simp only[v,List.length_set];exact u
 ·intro p d;rcases s p d with d|rfl;·exact zq c (h.items p d) (zn (h.items p d) e (by decide))
  ·have:=h.items M.xs[k] (List.getElem_mem r);exact zq c this (zn this e (by decide))
 ·intro p d;rcases s p d with d|rfl;·exact⟨zq c (h.parts p d).1 (zn (h.parts p d).1 e (by decide)),(h.parts p d).2⟩
  ·exact⟨zq c i (zn i e (by decide)),D⟩
 ·intro j A;obtain⟨o,y,q,z⟩:=h.opens j A;exact⟨zq c o (zn o e (by decide)),y,zq c q (zn q e (by decide)),z⟩
theorem Mem.setLast{w:World}{B x:Nat}{M:MV}{u:Nat->Nat}(h:Mem w B x M u (· =0)){mr:List (OP×Value×Value)}{m:OP×Value×Value}(i:M.os=mr++[m]){a:List Nat}{k:Nat}(Z:m.1.terms=a++[k]){d V:Nat}(q:m.2.2=.slice (S ⟨d,0,N⟩) (a.length+1) V)(n:Nat):Mem (w.setCell ⟨d,a.length,N⟩ (I J n)) B x {M with os:=mr++[({m.1 with terms:=a++[n]},m.2.1,m.2.2)]} u (· =0)/\KT B w (w.setCell ⟨d,a.length,N⟩ (I J n)):=by
 have c:=Chg.set d a.length (I J n) w;have L:mr.length<M.os.length:=by rw[i];simp
 have a1:M.os.length=mr.length+1:=by rw[i];simp
 have X:M.os[mr.length]'L=m:=by simp only[i];rw[List.getElem_append_right (Nat.le_refl _)];simp
 obtain⟨G,y,e,z⟩:=h.opens mr.length L;rw[X]at G y e z;have a2:u d=2 *mr.length+2:=z d (by rw[q];rfl);have r:w.ownsRow B 3 1 (.slice (S ⟨d,0,N⟩) (a.length+1) V) (a.length+1) ((a++[k]).map Zq):=by have e:=e;unfold Ints at e;rw[q,Z]at e;simpa using e
 obtain⟨cs,o⟩:=Qw r (b:=d) rfl;have O:=(r.stored a.length (I J n)).1;have Y:x≠d:=by intro g;subst g;have:=zn r h.blk (by decide);simp[Value.ownBlock]at this
 have s:∀(v:Value) (l:Nat),Lab u v l->l≠2 *mr.length+2->v.ownBlock≠S d:=by intro v l q hl g;have:=q d g;omega
 refine⟨⟨h.ge,by rw[c.same x h.lt Y];exact h.blk,zq c h.ex (zn h.ex o (by decide)),zq c h.ru (zn h.ru o (by decide)),?_,λp f=>zq c (h.items p f) (zn (h.items p f) o (by decide)),λp f=>⟨zq c (h.parts p f).1 (s _ 0 (h.parts p f).2 (by omega)),(h.parts p f).2⟩,?_⟩,KT.chg c (by have:=h.lt;have:=h.ge;omega) (r.lt d rfl).1 (λa0 t fr A=>by rw[o]at A;simp at A;rw[<-A.2.1];decide)⟩;·have D:=h.op;rw[i]at D;have:=zq c D (zn D o (by decide));simpa[opC]using this
 ·intro j H;simp only[]at H|-;by_cases K:j<mr.length;·rw[List.getElem_append_left K];obtain⟨R,E,U,F⟩:=h.opens j (by omega);simp only[i,List.getElem_append_left K]at R E U F;exact⟨zq c R (s _ _ E (by omega)),E,zq c U (s _ _ F (by omega)),F⟩
  ·have W:j=mr.length:=by simp at H;omega
   subst W;rw[List.getElem_append_right (Nat.le_refl _)];simp only[Nat.sub_self,List.getElem_cons_zero];refine⟨zq c G (s _ _ y (by omega)),y,?_,z⟩;unfold Ints;rw[q];have g:((a++[k]).map Zq).set a.length (I J n)=(a++[n]).map Zq:=by rw[List.map_append,List.set_append_right _ _ (by simp)];simp[Zq]
   rw[g]at O;simpa using O
end
end Go.Proofs.YtiganlkabilblaaGreatDoor
