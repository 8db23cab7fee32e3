import Derived.Test.YtiganlkabilblaaGreatDoorV16
import Derived.Test.YtiganlkabilblaaGreatDoorV17
import Derived.Test.YtiganlkabilblaaGreatDoorV20
import Derived.Deep.RegionHeldLaw
import Derived.Deep.AppendLies
set_option linter.all false
set_option maxHeartbeats 64000000
set_option maxRecDepth 100000
namespace Go.Proofs.YtiganlkabilblaaGreatDoor
open Tryz
open Tryz renaming prog->P
open Option renaming some->S,none->N
open Value renaming int->I
open IntKind renaming i64->J
abbrev Nod:=Nat×Nat×Nat×Nat
def zY:Nat->Nt->List Nod
 |_,.nil=>[]
 |d,.use i a b m=>(i,a,b,d)::zY (d+1) m
 |d,.pair a b=>zY d a++zY d b
def szN:Nt->Nat
 | .nil=>0
 | .use _ _ _ m=>szN m+1
 | .pair a b=>szN a+szN b
theorem zax(a b:Nt):szN (jn a b)=szN a+szN b:=by cases a<;>cases b<;>simp[jn,szN]
theorem zbC(d:Nat)(a b:Nt):zY d (jn a b)=zY d a++zY d b:=by cases a<;>cases b<;>simp[jn,zY]
theorem YS:∀(d:Nat) (m:Nt),(zY d m).length=szN m
 |_,.nil=>rfl
 |d,.use _ _ _ m=>by simp[zY,szN,YS (d+1) m]
 |d,.pair a b=>by simp[zY,szN,YS d a,YS d b]
theorem zbm(M:Mat)(n i:Nat)(a:Wm M n i i=false)(h:i<n):cnt M n i+1<=n:=by have:cnt M n i<((List.range n).filter (λ_=>true)).length:=qV _ (λ_ _ _=>rfl) ⟨i,by simpa using h,rfl,a⟩;rw[List.filter_eq_self.2 (λ_ _=>rfl),List.length_range]at this;exact this
def Vy(F:z7->Bool):Ex->List z7
 | .P p=>Zy F p
 | .Q p=>Zy F p
 | .I p _=>Zy F p
 | .T t=>JR F t
 | .S s _=>Q2 F s
 | .C c=>ZC F c
def Y2:Ex->Nat
 | .S _ a=>szN a
 |_=>0
def Kc(R F k e:Nat):Nat:=if e=k then 0 else F+R *(e-k-1)
theorem Uk{R F F' k a e:Nat}(i:k<=a)(j:a<=e)(hF:a=k->F'=F)(h:a≠k->F'<=R):Kc R F k a+Kc R F' a e<=Kc R F k e:=by
 unfold Kc;by_cases b:a=k;·subst b;rw[if_pos rfl,hF rfl];simp
 ·rw[if_neg b,if_neg (show¬e=k by omega)];have l:=h b;by_cases c:e=a;·subst c;rw[if_pos rfl];simp
  ·rw[if_neg c];obtain⟨x,rfl⟩:∃x,a=k+1+x:=⟨a-k-1,by omega⟩;obtain⟨y,rfl⟩:∃y,e=(k+1+x)+1+y:=⟨e-(k+1+x)-1,by omega⟩;have d:k+1+x-k-1=x:=by omega
   have f:k+1+x+1+y-(k+1+x)-1=y:=by omega
   have g:k+1+x+1+y-k-1=x+1+y:=by omega
   rw[d,f,g,Nat.mul_add,Nat.mul_add,Nat.mul_one];omega
theorem Ev.cntN{g:List ze}{L:z7}{E:List Bool}(n:JF g E){x:Ex}{k:Nat}{r:Out}(h:Ev g L x k r):k<=L.length->Y8 (zg g) E x->∀c,(∀b∈Vy (Eb (zg g) E) x,cnt (Za (zg g) E g) g.length (idx0 (zg g) b)+1<=c)->∀e m,r=S (e,m)->szN m<=Y2 x+Kc g.length c k e:=by
 have H:∀b,cnt (Za (zg g) E g) g.length (idx0 (zg g) b)+1<=g.length:=λb=>by
  have A:idx0 (zg g) b<g.length:=by have:=YU (names:=zg g) b (by rw[Q8];exact n.pos);rw[Q8]at this;exact this
  exact zbm _ _ _ (n.left _ A) A
 induction h with
 |cnil=>intro _ _ c _ e m h;cases h|chit _ f=>intro i d c hF e m h;simp only[Y8,Jh]at d;simp only[Vy,ZC]at hF;have:=f i d.1 c (λb o=>hF b (List.mem_append_left _ o)) e m h;simpa[Y2,szN]using this|cmiss _ _ _ f=>intro i d c hF e m h;simp only[Y8,Jh]at d;simp only[Vy,ZC]at hF;exact f i d.2 c (λb o=>hF b (List.mem_append_right _ o)) e m h|snil=>intro _ _ c _ e m h;cases h;simp[Y2]|sfail=>intro _ _ c _ e m h;cases h
 |@sstep t s V k D M r z G u v=>
  intro i d c hF e m h;simp only[Y8,Ym]at d;simp only[Vy,Q2]at hF;have j:=z.le i _ _ rfl;have w:=G.le j.2 _ _ h;have B:=u i d.1 c (λb o=>hF b (List.mem_append_left _ o)) _ _ rfl;simp only[Y2,Nat.zero_add]at B;by_cases q:D=k;·have J:=z.empty n i d.1 M (by rw[q]);simp only[J7]at J;have l:=v j.2 d.2 c (λb o=>hF b (List.mem_append_right _ (by rw[if_pos J];exact o))) e m h;simp only[Y2,zax]at l|-;have:=Uk (R:=g.length) (F:=c) (F':=c) j.1 w.1 (λ_=>rfl) (λh=>absurd q h);omega
  ·have l:=v j.2 d.2 g.length (λb _=>H b) e m h;simp only[Y2,zax]at l|-;have:=Uk (R:=g.length) (F:=c) (F':=g.length) j.1 w.1 (λh=>absurd h q) (λ_=>Nat.le_refl _);omega
 |tplain _ f=>intro i d c hF e m h;simp only[Y8,YT]at d;exact f i d.2.2.1 c hF e m h|tand _ f=>intro _ _ c _ e m h;unfold Ja at h;split at h<;>cases h;simp[szN]|tnot _ f=>intro _ _ c _ e m h;unfold Ja at h;split at h<;>cases h;simp[szN]|iplain _ f=>exact f
 |@imaybe p k r _ f=>
  intro i d c hF e m h;cases r with
  |none=>cases h;simp[szN]|some x=>exact f i d c hF e m h
 |@istar p k r _ f=>
  intro i d c hF e m h;cases r with
  |none=>cases h;simp[szN]|some x=>exact f i d c hF e m h
 |iplus _ f=>exact f|qno=>intro _ _ c _ e m h;cases h|qlast _ _ u _=>exact u
 |@qmore p k D M W m2 z G u v=>
  intro i d c hF e m h;have j:=z.le i _ _ rfl;have w:=G.le j.2 _ _ rfl;cases h;have B:=u i d c hF _ _ rfl;simp only[Y2,Nat.zero_add,zax]at B|-;by_cases q:D=k;·have l:=v j.2 d c hF _ _ rfl;simp only[Y2,Nat.zero_add]at l;have:=Uk (R:=g.length) (F:=c) (F':=c) j.1 w.1 (λ_=>rfl) (λh=>absurd q h);omega
  ·have l:=v j.2 d g.length (λb _=>H b) _ _ rfl;simp only[Y2,Nat.zero_add]at l;have:=Uk (R:=g.length) (F:=c) (F':=g.length) j.1 w.1 (λh=>absurd h q) (λ_=>Nat.le_refl _);omega
 |@pname b k r K Y hv f=>
  intro i d c hF e m h;cases r with
  |none=>cases h
  |some x=>
   obtain⟨N,U⟩:=x;have X:=hF b (by simp[Vy,Zy]);have a:=f i (n.good _ K) (cnt (Za (zg g) E g) g.length (idx0 (zg g) b)) (λy O=>by
    have A:idx0 (zg g) y<g.length:=by have:=YU (names:=zg g) y (by rw[Q8];exact n.pos);rw[Q8]at this;exact this
    have hd:Za (zg g) E g (idx0 (zg g) b) (idx0 (zg g) y)=true:=(KJ K (by rw[Q8];exact n.pos)).2 (List.mem_map.2 ⟨y,O,rfl⟩);exact Vu n.left A hd) N U rfl
   simp only[Y2,Nat.zero_add]at a|-;unfold QZ at h;simp only[]at h;split at h;·rename_i Z;cases h;simp only[szN];unfold Kc at a|-;rw[if_neg (by omega)]at a|-;omega
   ·cases h;simp[szN]
 |plit _=>intro _ _ c _ e m h;unfold Ya at h;split at h<;>cases h;simp[szN]
 |pcls _=>
  intro _ _ c _ e m h;unfold Qj at h;split at h;·cases h
  ·split at h<;>cases h;simp[szN]
 |pany=>
  intro _ _ c _ e m h;unfold Qj at h;split at h;·cases h
  ·split at h<;>cases h;simp[szN]
 |pgroup _ f=>exact f
theorem Ev.few{g:List ze}{i:z7}{E:List Bool}(a:JF g E){c:Z5}{e:Nat}{m:Nt}(h:Ev g i (.C c) 0 (S (e,m)))(l:Jh (zg g) E c):szN m<=g.length *i.length:=by
 have k:∀b,cnt (Za (zg g) E g) g.length (idx0 (zg g) b)+1<=g.length:=λb=>by
  have f:idx0 (zg g) b<g.length:=by have:=YU (names:=zg g) b (by rw[Q8];exact a.pos);rw[Q8]at this;exact this
  exact zbm _ _ _ (a.left _ f) f
 have d:=h.cntN a (Nat.zero_le _) l g.length (λb _=>k b) e m rfl;have j:=(h.le (Nat.zero_le _) e m rfl).2;simp only[Y2,Nat.zero_add]at d;refine Nat.le_trans d ?_;unfold Kc;split;·simp
 ·rename_i n;have:g.length+g.length *(e-0-1)=g.length *e:=by obtain⟨y,rfl⟩:∃y,e=y+1:=⟨e-1,by omega⟩;simp[Nat.mul_add];omega
  rw[this];exact Nat.mul_le_mul_left _ j
abbrev K6:=Nat->Nat->Option (List Nod)
def JC(F:REv)(G:K6):List Nat->Nat->Option (List Nod)
 |[],_=>some []
 |j::js,k=>match F j k with
  |some (some e)=>match G j k with
   |some l=>(JC F G js e).map (l++ ·)
   |none=>none
  |_=>none
def chD(F:REv)(G:K6):List Nat->Nat->Option (List Nod)
 |[],_=>some []
 |j::js,k=>match F j k with
  |some (some _)=>G j k
  |some none=>chD F G js k
  |none=>none
def ZM(F:REv)(G:K6)(j:Nat)(once:Bool):Nat->Nat->Option (List Nod)
 |0,_=>none
 |c+1,k=>match F j k with
  |none=>none
  |some none=>some []
  |some (some e)=>match G j k with
   |none=>none
   |some l=>if once then some l else(ZM F G j once c e).map (l++ ·)
def Yg(a:List z7)(b:List Nat)(F:REv)(G:Nat->Nat->Nat->Option (List Nod))(cnt:Nat)(e:RE)(k d:Nat):Option (List Nod):=if e.kind=4 then(match F (b.getD (idx0 a e.text) 0) k with|some (S n)=>if k<n then(G (b.getD (idx0 a e.text) 0) k (d+1)).map ((idx0 a e.text,k,n,d):: ·)else S []|_=>N)else if e.kind=5 then JC F (λi k=>G i k d) e.parts k else if e.kind=6 then chD F (λi k=>G i k d) e.parts k else if 7<=e.kind/\e.kind<=9 then ZM F (λi k=>G i k d) (e.parts.headD 0) (e.kind==7) cnt k else S []
def ndR(xs:List RE)(names:List z7)(bodies:List Nat)(inp:z7):Nat->Nat->Nat->Nat->Option (List Nod)
 |0,_,_,_=>none
 |f+1,i,k,d=>match xs[i]? with
  |none=>none
  |some e=>if okE names e then Yg names bodies (evR xs names bodies inp f) (ndR xs names bodies inp f) f e k d else none
def LeG(F G:K6):Prop:=∀i k v,F i k=S v->G i k=S v
theorem zcz{F d:REv}{G f:K6}(h:Le F d)(g:LeG G f):∀a k v,JC F G a k=S v->JC d f a k=S v
 |[],k,v,e=>e
 |j::a,k,v,e=>by
  simp only[JC]at e|-;cases hF:F j k with
  |none=>rw[hF]at e;cases e
  |some o=>
   rw[h j k o hF];rw[hF]at e;cases o with
   |none=>cases e
   |some x=>
    simp only[]at e|-;cases b:G j k with
    |none=>rw[b]at e;cases e
    |some l=>
     rw[g j k l b];rw[b]at e;simp only[]at e|-;cases c:JC F G a x with
     |none=>rw[c]at e;cases e|some i=>rw[zcz h g a x i c];rw[c]at e;exact e
theorem zb7{F b:REv}{G c:K6}(h:Le F b)(d:LeG G c):∀a k v,chD F G a k=S v->chD b c a k=S v
 |[],k,v,e=>e
 |j::a,k,v,e=>by
  simp only[chD]at e|-;cases hF:F j k with
  |none=>rw[hF]at e;cases e
  |some o=>
   rw[h j k o hF];rw[hF]at e;cases o with
   |none=>exact zb7 h d a k v e|some x=>exact d j k v e
theorem zck{F g:REv}{G i:K6}(h:Le F g)(m:LeG G i)(j:Nat)(b:Bool):∀c a k v,c<=a->ZM F G j b c k=S v->ZM g i j b a k=S v
 |0,_,_,_,_,e=>by simp[ZM]at e
 |c+1,0,_,_,n,_=>by omega
 |c+1,a+1,k,v,n,e=>by
  simp only[ZM]at e|-;cases hF:F j k with
  |none=>rw[hF]at e;cases e
  |some o=>
   rw[h j k o hF];rw[hF]at e;cases o with
   |none=>exact e
   |some x=>
    simp only[]at e|-;cases d:G j k with
    |none=>rw[d]at e;cases e
    |some l=>
     rw[m j k l d];rw[d]at e;simp only[]at e|-;cases b with
     |true=>exact e
     |false=>
      simp only[Bool.false_eq_true,if_false]at e|-;cases f:ZM F G j false c x with
      |none=>rw[f]at e;cases e|some p=>rw[zck h m j false c a x p (by omega) f];rw[f]at e;exact e
theorem zbS(c:List RE)(b:List z7)(a:List Nat)(g:z7):∀f i k d v,ndR c b a g f i k d=S v->ndR c b a g (f+1) i k d=S v
 |0,_,_,_,_,h=>by simp[ndR]at h
 |f+1,i,k,d,v,h=>by
  have hF:=qO c b a g f;have j:=zbS c b a g f;rw[ndR]at h|-;cases w:c[i]? with
  |none=>rw[w]at h;cases h
  |some e=>
   rw[w]at h;simp only[]at h|-;split at h;rotate_left;·cases h
   rename_i x;rw[if_pos x];unfold Yg at h|-;by_cases r:e.kind=4
   ·rw[if_pos r]at h|-;cases q:evR c b a g f (a.getD (idx0 b e.text) 0) k with
    |none=>rw[q]at h;cases h
    |some o=>
     rw[hF _ _ _ q];rw[q]at h;cases o with
     |none=>cases h
     |some n=>
      simp only[]at h|-;split at h;rotate_left;·rename_i p;rw[if_neg p];exact h
      ·rename_i p;rw[if_pos p];cases m:ndR c b a g f (a.getD (idx0 b e.text) 0) k (d+1)with
       |none=>rw[m]at h;cases h|some l=>rw[j _ _ _ _ m];rw[m]at h;exact h
   rw[if_neg r]at h|-;by_cases s:e.kind=5;·rw[if_pos s]at h|-;exact zcz hF (λi k v=>j i k d v) _ _ _ h
   rw[if_neg s]at h|-;by_cases t:e.kind=6;·rw[if_pos t]at h|-;exact zb7 hF (λi k v=>j i k d v) _ _ _ h
   rw[if_neg t]at h|-;by_cases u:7<=e.kind/\e.kind<=9;·rw[if_pos u]at h|-;exact zck hF (λi k v=>j i k d v) _ _ _ _ _ _ (Nat.le_succ f) h
   rw[if_neg u]at h|-;exact h
theorem VF{g:List RE}{e:List z7}{a:List Nat}{c:z7}{f b:Nat}(m:f<=b):∀i k d v,ndR g e a c f i k d=S v->ndR g e a c b i k d=S v:=by
 induction b with
 |zero=>
  have:f=0:=by omega
  subst this;intro i k d v h;exact h
 |succ n l=>
  by_cases h:f=n+1;·subst h;intro i k d v h;exact h
  ·intro i k d v j;exact zbS g e a c n i k d v (l (by omega) i k d v j)
def ztu(a:List RE)(n:List z7)(h:List Nat)(j:z7):Ex->Nat->Out->Prop
 | .P p,k,r=>∀e m,r=S (e,m)->∀i,zw a i p->∀d,∃f,ndR a n h j f i k d=S (zY d m)
 | .Q p,k,r=>∀e m,r=S (e,m)->∀i,zw a i p->∀d,∃f,∀g c,f<=g->f<=c->ZM (evR a n h j g) (λi k=>ndR a n h j g i k d) i false c k=S (zY d m)
 | .I p b,k,r=>∀e m,r=S (e,m)->∀i,zaG a i p b->∀d,∃f,ndR a n h j f i k d=S (zY d m)
 | .T t,k,r=>∀e m,r=S (e,m)->∀i,Zw a i t->∀d,∃f,ndR a n h j f i k d=S (zY d m)
 | .S s q,k,r=>∀e m,r=S (e,m)->∀o,Z7 a o s->∀d,∃f l,zY d m=zY d q++l/\∀g,f<=g->JC (evR a n h j g) (λi k=>ndR a n h j g i k d) o k=S l
 | .C c,k,r=>∀e m,r=S (e,m)->∀o,zZ a o c->∀d,∃f,∀g,f<=g->chD (evR a n h j g) (λi k=>ndR a n h j g i k d) o k=S (zY d m)
theorem KP{c:List RE}{a:List z7}{b:List Nat}{g:z7}{i:Nat}{e:RE}(h:c[i]?=S e)(j:okE a e=true)(f k d:Nat):ndR c a b g (f+1) i k d=Yg a b (evR c a b g f) (ndR c a b g f) f e k d:=by rw[ndR];simp only[h,j,if_true]
theorem VE{b:List RE}{a:List z7}{c:List Nat}{g:z7}{i:Nat}{e:RE}(h:b[i]?=S e)(f:okE a e=true)(j:e.kind<=3\/10<=e.kind)(k d:Nat):ndR b a c g 1 i k d=S []:=by rw[KP h f];unfold Yg;rw[if_neg (by omega),if_neg (by omega),if_neg (by omega),if_neg (by omega)]
theorem VG{a:List RE}{e:List z7}{b:List Nat}{c:z7}{i j s:Nat}(h:a[i]?=S (zy s j))(g:7<=s/\s<=9)(f k d:Nat):ndR a e b c (f+1) i k d=ZM (evR a e b c f) (λi k=>ndR a e b c f i k d) j (s==7) f k:=by rw[KP h (UQ _ ⟨by omega,by omega⟩)];unfold Yg;rw[if_neg (by simp only[zy];omega),if_neg (by simp only[zy];omega),if_neg (by simp only[zy];omega),if_pos (by simp only[zy];omega)];simp[zy]
theorem Ev.simD{g:List ze}{a2:z7}{xs:List RE}{L:List (z7×Nat)}(D:zV xs L g){x:Ex}{k:Nat}{r:Out}(h:Ev g a2 x k r):ztu xs (L.map (·.1)) (L.map (·.2)) a2 x k r:=by
 have a1:L.map (·.1)=zg g:=zV.names L g D;induction h with
 |cnil=>intro e m h;cases h|@chit s c k x F A=>intro e m a is hd d;simp only[zZ]at hd;obtain⟨q,K,X,rfl,o,v,R⟩:=hd;obtain⟨f,l,W,w⟩:=A e m a X v d;obtain⟨H,J⟩:=F.sim D X v;simp only[zY,List.nil_append]at W;subst W;refine⟨max f H+1,λz a3=> ?_⟩;obtain⟨G,rfl⟩:∃G,z=G+1:=⟨z-1,by omega⟩;simp only[chD];rw[Y7 o (by simp[okE])];unfold QH;rw[if_neg (by simp),if_neg (by simp),if_pos (by simp)];simp only[];rw[J G (by omega),a];simp only[fin,Option.map_some];rw[KP o (by simp[okE])];unfold Yg;rw[if_neg (by simp),if_pos (by simp)];exact w G (by omega)
 |@cmiss s c k r F _ O V=>intro e m a is hd d;simp only[zZ]at hd;obtain⟨q,K,X,rfl,o,v,R⟩:=hd;obtain⟨H,J⟩:=F.sim D X v;obtain⟨f,w⟩:=V e m a K R d;refine⟨max f H+1,λz a3=> ?_⟩;obtain⟨G,rfl⟩:∃G,z=G+1:=⟨z-1,by omega⟩;simp only[chD];rw[Y7 o (by simp[okE])];unfold QH;rw[if_neg (by simp),if_neg (by simp),if_pos (by simp)];simp only[];rw[J G (by omega)];simp only[fin,Option.map_none];exact w (G+1) (by omega)
 |snil=>intro e m a is hd d;simp only[Z7]at hd;subst hd;cases a;exact⟨0,[],by simp,λ_ _=>rfl⟩|sfail=>intro e m h;cases h|@sstep t s a9 k e1 Z r U _ O V=>intro e m a is hd d;simp only[Z7]at hd;obtain⟨q,K,rfl,o,v⟩:=hd;obtain⟨f,w⟩:=O e1 Z rfl q o d;obtain⟨u,B⟩:=U.sim D q o;obtain⟨H,l,W,J⟩:=V e m a K v d;refine⟨max (max f u) H,zY d Z++l,by rw[W,zbC,List.append_assoc],λz a3=> ?_⟩;simp only[JC];rw[Jz (show u<=z by omega) _ _ _ B];simp only[fin,Option.map_some];rw[VF (show f<=z by omega) _ _ _ _ w];simp only[];rw[J z (by omega)];rfl
 |@tplain p b k r _ A=>
  intro e m a i hd d;simp only[Zw]at hd;obtain⟨i',j,o,v,R,h4,h5⟩:=hd;rw[if_pos trivial]at o;subst o;refine A e m a i ⟨?_,h4⟩ d;by_cases E:b=0;·rw[if_pos E]at v|-;subst v;exact R
  ·rw[if_neg E]at v|-;exact⟨j,v,R⟩
 |@tand p b k r _ A=>intro e m a i hd d;simp only[Zw]at hd;obtain⟨i',j,o,_⟩:=hd;rw[if_neg (by decide),zcF]at o;unfold Ja at a;split at a<;>cases a;exact⟨1,VE o (UQ _ ⟨by omega,by omega⟩) (.inr (by simp[zy])) k d⟩
 |@tnot p b k r _ A=>intro e m a i hd d;simp only[Zw]at hd;obtain⟨i',j,o,_⟩:=hd;rw[if_neg (by decide),zcE]at o;unfold Ja at a;split at a<;>cases a;exact⟨1,VE o (UQ _ ⟨by omega,by omega⟩) (.inr (by simp[zy])) k d⟩
 |iplain _ A=>intro e m a i hd d;have:=hd.1;rw[if_pos rfl]at this;exact A e m a i this d
 |@imaybe p k r F A=>
  intro e m a i hd d;have:=hd.1;rw[if_neg (by decide)]at this;obtain⟨j,o,v⟩:=this;rw[zcI]at o;obtain⟨u,B⟩:=F.sim D j v;cases r with
  |none=>cases a;refine⟨u+1+1,?_⟩;rw[VG o ⟨by omega,by omega⟩];simp only[ZM];rw[Jz (show u<=u+1 by omega) _ _ _ B];rfl|some y=>obtain⟨e',Y⟩:=y;cases a;obtain⟨f,w⟩:=A _ _ rfl j v d;refine⟨max f u+1+1,?_⟩;rw[VG o ⟨by omega,by omega⟩];simp only[ZM];rw[Jz (show u<=max f u+1 by omega) _ _ _ B];simp only[fin,Option.map_some];rw[VF (show f<=max f u+1 by omega) _ _ _ _ w];rfl
 |@istar p k r F A=>
  intro e m a i hd d;have:=hd.1;rw[if_neg (by decide)]at this;obtain⟨j,o,v⟩:=this;rw[zcG]at o;cases r with
  |none=>cases a;obtain⟨u,n,B,M⟩:=F.sim D j v;simp only[]at M;subst M;refine⟨u+1+1,?_⟩;rw[VG o ⟨by omega,by omega⟩];simp only[ZM];rw[B (u+1) (by omega)];rfl
  |some y=>obtain⟨e',Y⟩:=y;cases a;obtain⟨f,w⟩:=A _ _ rfl j v d;refine⟨f+1,?_⟩;rw[VG o ⟨by omega,by omega⟩];exact w f f (Nat.le_refl _) (Nat.le_refl _)
 |@iplus p k r F A=>intro e m a i hd d;have:=hd.1;rw[if_neg (by decide)]at this;obtain⟨j,o,v⟩:=this;rw[zcH]at o;obtain⟨f,w⟩:=A e m a j v d;refine⟨f+1,?_⟩;rw[VG o ⟨by omega,by omega⟩];exact w f f (Nat.le_refl _) (Nat.le_refl _)
 |qno=>intro e m h;cases h|@qlast p k e1 Z U a4 O _=>intro e m a i hd d;cases a;obtain⟨f,w⟩:=O _ _ rfl i hd d;obtain⟨u,B⟩:=U.sim D i hd;obtain⟨H,n,J,M⟩:=a4.sim D i hd;simp only[]at M;subst M;refine⟨max (max f u) H+2,λz c o v=> ?_⟩;obtain⟨N,rfl⟩:∃N,c=N+1+1:=⟨c-2,by omega⟩;simp only[ZM];rw[Jz (show u<=z by omega) _ _ _ B];simp only[fin,Option.map_some];rw[VF (show f<=z by omega) _ _ _ _ w];simp only[Bool.false_eq_true,if_false];rw[J z (by omega)];simp
 |@qmore p k e1 Z e2 m2 U a4 O V=>intro e m a i hd d;cases a;obtain⟨f,w⟩:=O _ _ rfl i hd d;obtain⟨u,B⟩:=U.sim D i hd;obtain⟨H,J⟩:=V _ _ rfl i hd d;refine⟨max (max f u) H+1,λz c o v=> ?_⟩;obtain⟨N,rfl⟩:∃N,c=N+1:=⟨c-1,by omega⟩;simp only[ZM];rw[Jz (show u<=z by omega) _ _ _ B];simp only[fin,Option.map_some];rw[VF (show f<=z by omega) _ _ _ _ w];simp only[Bool.false_eq_true,if_false];rw[J z N (by omega) (by omega),zbC];rfl
 |@pname b k r a6 hc F A=>
  intro e m a i hd d;simp only[zw]at hd;have E:=((zV.get L g D).2 _ a6).2;have a5:=E;simp only[zw]at E;obtain⟨K,a7,a8⟩:=E;cases r with
  |none=>cases a
  |some y=>
   obtain⟨e',Y⟩:=y;obtain⟨u,B⟩:=(Ev.pgroup F).sim D _ a5;obtain⟨f,w⟩:=A e' Y rfl K a8 (d+1);unfold QZ at a;simp only[]at a;refine⟨max (f+1) u+1,?_⟩;rw[KP hd (by rw[a1];simp[okE]at hc|-;exact hc)];unfold Yg;rw[if_pos (by simp)];simp only[];rw[a1]at B|-;rw[Jz (show u<=max (f+1) u by omega) _ _ _ B];simp only[fin,Option.map_some];split at a
   ·rename_i a0;cases a;rw[if_pos a0];have M:ndR xs (zg g) (L.map (·.2)) a2 (f+1) ((L.map (·.2)).getD (idx0 (zg g) b) 0) k (d+1)=S (zY (d+1) Y):=by rw[KP a7 (by simp[okE])];unfold Yg;rw[if_neg (by simp),if_neg (by simp),if_pos (by simp)];rw[a1]at w;exact w f (Nat.le_refl _)
    rw[VF (show f+1<=max (f+1) u by omega) _ _ _ _ M];rfl
   ·rename_i a0;cases a;rw[if_neg a0];rfl
 |@plit b k E=>intro e m a i hd d;simp only[zw]at hd;unfold Ya at a;split at a<;>cases a;exact⟨1,VE hd (by simp[okE];exact E) (.inl (by simp)) k d⟩
 |@pcls l k E=>
  intro e m a i hd d;simp only[zw]at hd;unfold Qj at a;split at a;·cases a
  ·split at a<;>cases a;exact⟨1,VE hd (by simp[okE];exact E) (.inl (by simp)) k d⟩
 |@pany k=>
  intro e m a i hd d;simp only[zw]at hd;unfold Qj at a;split at a;·cases a
  ·split at a<;>cases a;exact⟨1,VE hd (by simp[okE]) (.inl (by simp)) k d⟩
 |@pgroup c k r _ A=>intro e m a i hd d;simp only[zw]at hd;obtain⟨K,o,v⟩:=hd;obtain⟨f,w⟩:=A e m a K v d;refine⟨f+1,?_⟩;rw[KP o (by simp[okE])];unfold Yg;rw[if_neg (by simp),if_neg (by simp),if_pos (by simp)];exact w f (Nat.le_refl _)
section
open Go.RowKit
attribute [local go_sem ↓] Go.wp_at_zero Go.wp_at_succ
theorem infoNode:(prog.info? 60).map (λi=>(i.zero,i.size,i.bytes))=S (S (.agg #[I J 0,I J 0,I J 0,I J 0]),4,32):=by kernel_rfl
theorem methodListU(h:Value)(w:World):(Go.method 476 108 h "thicket/match.list").run P w=.ok (81,h) w:=by kernel_rfl
theorem methodListP(h:Value)(w:World):(Go.method 476 342 h "thicket/match.list").run P w=.ok (260,h) w:=by kernel_rfl
def ZZ(x:Nod):List Value:=[I J x.1,I J x.2.1,I J x.2.2.1,I J x.2.2.2]
abbrev YE(v:Value)(d:Nat):Obj:=.cells #[v,I J d] 170 (0,0)
abbrev usO(i x y:Nat)(v:Value):Obj:=.cells #[I J i,I J x,I J y,v] 108 (0,0)
structure Lsg(w:World)(lb B:Nat)(a:Option Addr)(c:Nat)(xs:List Nod)(d:Nat):Prop where
 blk:w.heap[lb]?=some (YE (.slice a xs.length c) d)
 row:w.ownsRow B 60 4 (.slice a xs.length c) xs.length (xs.flatMap ZZ)
structure KpL(lb:Nat)(ob:Option Nat)(w w':World):Prop where
 os:w'.os=w.os
 tape:w'.tape=w.tape
 output:w'.output=w.output
 size:w.heap.size<=w'.heap.size
 block:∀b,b<w.heap.size->b≠lb->some b≠ob->w'.heap[b]?=w.heap[b]?
abbrev obS(a:Option Addr)(n c:Nat):Option Nat:=(Value.slice a n c).ownBlock
def JJ(i B:Nat)(a:Option Addr)(c:Nat)(b h:List Nod)(d:Nat)(w j:World):Prop:=∃e f,Lsg j i B e f (b++h) d/\KpL i (obS a b.length c) w j/\(obS e (b++h).length f=obS a b.length c\/∃g,obS e (b++h).length f=S g/\w.heap.size<=g)
theorem KpL.of_below{lb:Nat}{ob:Option Nat}{w a:World}(h:Below w.heap.size w a):KpL lb ob w a:=⟨h.os,h.tape,h.output,h.size,λb c _ _=>h.block b c⟩
theorem KpL.trans{c:Nat}{d f:Option Nat}{w l m:World}(h:KpL c d w l)(a:KpL c f l m)(n:f=d\/∃g,f=S g/\w.heap.size<=g):KpL c d w m:=by
 refine⟨a.os.trans h.os,a.tape.trans h.tape,a.output.trans h.output,Nat.le_trans h.size a.size,λb i j k=> ?_⟩;rw[a.block b (Nat.lt_of_lt_of_le i h.size) j,h.block b i j k];rcases n with rfl|⟨g,rfl,o⟩;·exact k
 ·intro e;have:=Option.some.inj e;omega
theorem KpL.set{a o:Nat}{d:Option Nat}{w e:World}(h:KpL a d w e)(v:Value):KpL a d w (e.setCell ⟨a,o,N⟩ v):=⟨h.os,h.tape,h.output,by simpa[World.setCell]using h.size,λb f c g=>by rw[Below.heap_setCell _ _ _ _ c];exact h.block b f c g⟩
theorem KpL.grown{g:Nat}{a:Option Nat}{X c:World}{O:Obj}(h:(X.alloc O).grownBy c a):KpL g a X c:=by have f:=h.size;simp at f;exact⟨h.os,h.tape,h.output,by omega,λb d _ e=>by rw[h.block b (by simp;omega) e,zm _ _ d]⟩
theorem Lsg.ne{w:World}{f B:Nat}{a:Option Addr}{c:Nat}{g:List Nod}{d:Nat}(h:Lsg w f B a c g d):S f≠obS a g.length c:=by intro e;obtain⟨i,b⟩:=Zr h.row e.symm;rw[h.blk]at b;simp at b
theorem Lsg.kp{w f:World}{e B:Nat}{a:Option Addr}{c:Nat}{g:List Nod}{d:Nat}(h:Lsg w e B a c g d)(b:Below w.heap.size w f):Lsg f e B a c g d:=⟨by rw[b.block _ (zd h.blk)];exact h.blk,Zv h.row b⟩
theorem Lsg.depth{w:World}{b B:Nat}{a:Option Addr}{c:Nat}{f:List Nod}{d:Nat}(h:Lsg w b B a c f d)(e:Nat):Lsg (w.setCell ⟨b,1,N⟩ (I J e)) b B a c f e:=by refine⟨by rw[zo h.blk];rfl,Z6 h.row (λg i=>Below.heap_setCell _ _ _ _ ?_)⟩;rintro rfl;exact h.ne i.symm
theorem zbB(a:List Nod)(z:Nod):(a++[z]).flatMap ZZ=a.flatMap ZZ++ZZ z:=by simp
theorem Lsg.push{X i:World}{f B:Nat}{a:Option Addr}{c:Nat}{b:List Nod}{d g j:Nat}{z:Nod}{O:Obj}(h:Lsg X f B a c b d)(n:i.ownsRow B 60 4 (.slice (S ⟨g,0,N⟩) (b.length+1) j) (b.length+1) (b.flatMap ZZ++ZZ z))(o:(X.alloc O).grownBy i (obS a b.length c)):Lsg (i.setCell ⟨f,0,N⟩ (.slice (S ⟨g,0,N⟩) (b.length+1) j)) f B (S ⟨g,0,N⟩) j (b++[z]) d:=by
 have r:=zd h.blk;have l:i.heap[f]?=S (YE (.slice a b.length c) d):=by rw[o.block f (by simp;omega) h.ne,zm _ _ r];exact h.blk
 have p:f≠g:=by rintro rfl;obtain⟨s,m⟩:=Zr n rfl;rw[l]at m;simp at m
 refine⟨by rw[zo l,List.length_append];rfl,?_⟩;rw[zbB,List.length_append];exact Z6 n (λk q=>Below.heap_setCell _ _ _ _ (by have e:g=k:=Option.some.inj q;subst e;exactλe=>p e.symm))
theorem JJ.trans{l B:Nat}{a:Option Addr}{c:Nat}{b ys s:List Nod}{d:Nat}{w q r:World}{f:Option Addr}{i:Nat}(o:KpL l (obS a b.length c) w q)(p:obS f (b++ys).length i=obS a b.length c\/∃g,obS f (b++ys).length i=S g/\w.heap.size<=g)(h:JJ l B f i (b++ys) s d q r):JJ l B a c b (ys++s) d w r:=by
 obtain⟨t,u,m,v,n⟩:=h;rw[List.append_assoc]at m n;refine⟨t,u,m,o.trans v p,?_⟩;rcases n with e|⟨g,e,k⟩
 ·rcases p with j|⟨g,j,k⟩;·exact .inl (e.trans j)
  ·exact .inr ⟨g,e.trans j,k⟩
 ·exact .inr ⟨g,e,Nat.le_trans o.size k⟩
def wfN:Nt->Prop
 | .nil=>True
 | .use _ _ _ m=>wfN m
 | .pair a b=>a≠.nil/\b≠.nil/\wfN a/\wfN b
theorem zdk{a b:Nt}(c:wfN a)(d:wfN b):wfN (jn a b):=by cases a<;>cases b<;>first|exact d|exact c|exact⟨by simp,by simp,c,d⟩
def zty:Ex->Prop
 | .S _ a=>wfN a
 |_=>True
theorem Ev.wf{g:List ze}{j:z7}{x:Ex}{k:Nat}{r:Out}(h:Ev g j x k r):zty x->∀e m,r=S (e,m)->wfN m:=by
 induction h with
 |cnil=>intro _ e m h;cases h|chit _ a=>intro _ e m h;exact a trivial e m h|cmiss _ _ _ a=>intro _ e m h;exact a trivial e m h|snil=>intro c e m h;cases h;exact c|sfail=>intro _ e m h;cases h|sstep _ _ d f=>intro c e m h;exact f (zdk c (d trivial _ _ rfl)) e m h|tplain _ a=>exact a|tand _ a=>intro _ e m h;unfold Ja at h;split at h<;>cases h;exact trivial|tnot _ a=>intro _ e m h;unfold Ja at h;split at h<;>cases h;exact trivial|iplain _ a=>exact a
 |@imaybe p k r _ a=>
  intro c e m h;cases r with
  |none=>cases h;exact trivial|some x=>exact a c e m h
 |@istar p k r _ a=>
  intro c e m h;cases r with
  |none=>cases h;exact trivial|some x=>exact a c e m h
 |iplus _ a=>exact a|qno=>intro _ e m h;cases h|qlast _ _ d _=>exact d|qmore _ _ d f=>intro c e m h;cases h;exact zdk (d c _ _ rfl) (f c _ _ rfl)
 |@pname b k r o n _ a=>
  intro c e m h;cases r with
  |none=>cases h
  |some x=>
   obtain⟨i,l⟩:=x;have:=a trivial i l rfl;unfold QZ at h;simp only[]at h;split at h<;>cases h;·exact this
   ·exact trivial
 |plit=>intro _ e m h;unfold Ya at h;split at h<;>cases h;exact trivial
 |pcls=>
  intro _ e m h;unfold Qj at h;split at h;·cases h
  ·split at h<;>cases h;exact trivial
 |pany=>
  intro _ e m h;unfold Qj at h;split at h;·cases h
  ·split at h<;>cases h;exact trivial
 |pgroup _ a=>exact a
abbrev qu(f:FuncId)(v:Value)(m:Nt):Prop:=∀(w:World) (b B:Nat) (a:Option Addr) (c:Nat) (g:List Nod) (d:Nat),Lsg w b B a c g d->B<=w.heap.size->g.length+szN m<=1000000->d+szN m<=1000000->Calls P f #[v,z9 b] w λe h=>e=.returned (.tuple #[])/\JJ b B a c g (zY d m) d w h
def YL:Nt->Prop
 | .nil=>True
 | .use i x y m=>qu 81 (.agg #[I J i,I J x,I J y,ntV m]) (.use i x y m)
 | .pair p q=>qu 260 (.agg #[ntV p,ntV q]) (.pair p q)
end
end Go.Proofs.YtiganlkabilblaaGreatDoor
