import Derived.Test.YtiganlkabilblaaGreatDoorV12
import Derived.Test.YtiganlkabilblaaGreatDoorV04
import Derived.Test.YtiganlkabilblaaGreatDoorV11
set_option linter.all false
set_option maxHeartbeats 64000000
set_option maxRecDepth 100000
namespace Go.Proofs.YtiganlkabilblaaGreatDoor
open Tryz
open Tryz renaming prog->P
open Option renaming some->S,none->N
open Value renaming int->I
open IntKind renaming i64->J
section
open Go.RowKit
attribute [local go_sem ↓] Go.wp_at_zero Go.wp_at_succ
theorem infoOpen:(prog.info? 209).map (λi=>(i.zero,i.size,i.bytes))=S (S (.agg #[.slice N 0 0,.slice N 0 0,.string ⟨#[]⟩]),3,64):=by kernel_rfl
def Va(w:World)(B:Nat)(a:Nat)(e:Ending)(b:World):Prop:=e=.returned (I J a)/\KT B w b
def okA(b:z7):Prop:=b=[38]\/b=[33]
theorem Mem.c3{w:World}{B a:Nat}{M:MV}{b:Nat->Nat}{P:Nat->Prop}(h:Mem w B a M b P):w.cell? ⟨a,3,N⟩=S (.string ⟨M.sign.toArray⟩)/\w.cell? ⟨a,4,N⟩=S (.bool M.may)/\w.cell? ⟨a,2,N⟩=S M.vo/\(∀o,w.frozen? ⟨a,o,N⟩=false):=⟨z8 h.blk 3,z8 h.blk 4,z8 h.blk 2,zi h.blk⟩
theorem UW(w:World)(B b:Nat)(M:MV)(g:Nat->Nat)(h:Mem w B b M g (· =0))(a:okA M.sign)(c:UInt8)(f:c=47\/c=38\/c=33\/c=41):Calls P 100 #[.pointer (S ⟨b,0,N⟩),.string ⟨#[c]⟩] w λe i=>Va w B 2 e i:=by obtain⟨d,k,j,l⟩:=h.c3;clear h;rcases a with a|a<;>rw[a]at d<;>rcases f with rfl|rfl|rfl|rfl;all_goals go_enter func100,ntmps100;go_wp2_with fail;go_ret;exact⟨rfl,KT.refl _ _⟩
theorem zcr(w:World)(B f:Nat)(M:MV)(l:Nat->Nat)(h:Mem w B f M l (· =0))(k:M.sign=[])(c:UInt8)(j:c=38\/c=33):Calls P 100 #[.pointer (S ⟨f,0,N⟩),.string ⟨#[c]⟩] w λi m=>QS w B f {M.st with sign:=[c],may:=false} (I J 0) i m:=by
 obtain⟨g,o,n,p⟩:=h.c3;rw[k]at g;have H:=z6 h;clear h;rcases j with rfl|rfl;all_goals go_enter func100,ntmps100;go_wp2_with fail;go_ret
 ·obtain⟨a,d⟩:=H.out.setSign [38];obtain⟨b,e⟩:=a.setMay false;exact⟨rfl,_,_,b,d.trans e,rfl⟩
 ·obtain⟨a,d⟩:=H.out.setSign [33];obtain⟨b,e⟩:=a.setMay false;exact⟨rfl,_,_,b,d.trans e,rfl⟩
theorem zii(w:World)(B a:Nat)(M:MV)(g:Nat->Nat)(h:Mem w B a M g (· =0))(q:M.sign=[])(c:List (OP×Value×Value))(m:OP×Value×Value)(p:M.os=c++[m])(F:M.xs.length<=90000)(G:m.1.seqs.length<=90000)(H:c.length<=90000):Calls P 100 #[.pointer (S ⟨a,0,N⟩),.string ⟨#[47]⟩] w λn s=>QS w B a {M.st.slash with may:=false} (I J 0) n s:=by obtain⟨l,v,u,E⟩:=h.c3;rw[q]at l;have f:=zcs w B a M g h c m p (by omega) (by omega) (by omega);clear h;go_enter func100,ntmps100;go_wp2_with fail;refine f.mono ?_;rintro D L⟨rfl,t,K,b,d,e⟩;obtain⟨y,z,x,A⟩:=b.c3;have j:=z6 b;have i:=z6 d;have k:=z6 e;clear f b d e;go_wp2_with fail;obtain⟨o,r⟩:=j.out.setMay false;go_ret;refine⟨rfl,_,_,o,i.out.trans r,?_⟩;rw[<-k.out];rfl
theorem zif(w:World)(B a:Nat)(M:MV)(g:Nat->Nat)(h:Mem w B a M g (· =0))(f:M.may=false)(c:UInt8)(e:c=63\/c=42\/c=43):Calls P 100 #[.pointer (S ⟨a,0,N⟩),.string ⟨#[c]⟩] w λd i=>Va w B 2 d i:=by obtain⟨k,b,j,l⟩:=h.c3;rw[f]at b;clear h;rcases e with rfl|rfl|rfl;all_goals go_enter func100,ntmps100;go_wp2_with fail;go_ret;exact⟨rfl,KT.refl _ _⟩
theorem zib(w:World)(B a:Nat)(M:MV)(j:Nat->Nat)(h:Mem w B a M j (· =0))(H:M.may=true)(c:UInt8)(v:c=63\/c=42\/c=43)(d:List (OP×Value×Value))(m:OP×Value×Value)(z:M.os=d++[m])(f:List Nat)(k:Nat)(A:m.1.terms=f++[k])(x:k<M.xs.length)(y:(M.xs[k].1.kind=10\/M.xs[k].1.kind=11)->M.xs[k].1.parts≠[])(r:M.xs.length<=90000)(s:f.length<=90000)(t:d.length<=90000):Calls P 100 #[.pointer (S ⟨a,0,N⟩),.string ⟨#[c]⟩] w λg l=>QS w B a (M.st.behind [c]) (I J 0) g l:=by
 obtain⟨R,G,O,V⟩:=h.c3;rw[H]at G;have i:YW [c]:=by rcases v with rfl|rfl|rfl<;>simp[YW]
 have u:Calls P 142 #[.pointer (S ⟨a,0,N⟩),.string ⟨[c].toArray⟩] w λg l=>QS w B a (M.st.behind [c]) (.tuple #[]) g l:=by
  by_cases b:M.xs[k].1.kind=10\/M.xs[k].1.kind=11;·exact zho w B a M j h d m z f k A x ⟨b,y b⟩ [c] i r s t
  ·exact zhp w B a M j h d m z f k A x ⟨λe=>b (.inl e),λe=>b (.inr e)⟩ [c] i r s t
 clear h y i;rcases v with rfl|rfl|rfl;all_goals go_enter func100,ntmps100;go_wp2_with fail;refine u.mono ?_;rintro U D⟨rfl,F,L,p,o,q⟩;have E:Hid (∃n K,Mem D B a n K (· =0)/\KT B w D/\n.st=_):=⟨F,L,p,o,q⟩;clear u p o q;go_wp2_with fail;go_ret;exact⟨rfl,E.out⟩
theorem zid(w:World)(B b:Nat)(M:MV)(e:Nat->Nat)(h:Mem w B b M e (· =0))(hd:6<M.os.length):Calls P 100 #[.pointer (S ⟨b,0,N⟩),.string ⟨#[40]⟩] w λd f=>Va w B 3 d f:=by
 obtain⟨g,i,c,j⟩:=h.c3;obtain⟨l,m,a⟩:=zl h.op;rw[a]at c;have k:(6:Int)<(M.os.length:Int):=by omega
 clear h a;go_enter func100,ntmps100;go_wp2_with fail;go_ret;exact⟨rfl,KT.refl _ _⟩
theorem zig(w:World)(B b:Nat)(M:MV)(g:Nat->Nat)(h:Mem w B b M g (· =0))(f:M.sign=[])(hd:M.os.length<2):Calls P 100 #[.pointer (S ⟨b,0,N⟩),.string ⟨#[41]⟩] w λe i=>Va w B 2 e i:=by
 obtain⟨d,j,c,k⟩:=h.c3;rw[f]at d;obtain⟨m,n,a⟩:=zl h.op;rw[a]at c;have l:(M.os.length:Int)<2:=by omega
 clear h a;go_enter func100,ntmps100;go_wp2_with fail;go_ret;exact⟨rfl,KT.refl _ _⟩
theorem VP(w:World)(B b:Nat)(M:MV)(f:Nat->Nat)(h:Mem w B b M f (· =0))(d:List (OP×Value×Value))(m:OP×Value×Value)(j:M.os=d++[m])(e:Nat)(a:z7)(c:a=[]\/okA a)(n:M.xs.length<=100000)(g:m.1.terms.length<=100000)(i:d.length<=100000):Calls P 101 #[.pointer (S ⟨b,0,N⟩),I J e,.string ⟨a.toArray⟩] w λk p=>QS w B b (M.st.term e a) (.tuple #[]) k p:=by
 have l:M.st.xs.length=M.xs.length:=by simp[MV.st]
 unfold ST.term;rcases c with rfl|c;·rw[if_pos rfl];exact zij w B b M f h d m j e g i
 ·have o:YW a:=by rcases c with rfl|rfl<;>simp[YW]
  rw[if_neg (by rcases c with rfl|rfl<;>simp),l];exact zik w B b M f h d m j e a o n g i
theorem zic(w:World)(B b:Nat)(a:MV)(z:Nat->Nat)(h:Mem w B b a z (· =0))(W:a.sign=[])(c:List (OP×Value×Value))(g m:OP×Value×Value)(e:a.os=c++[g]++[m])(X:m.1.sign=[]\/okA m.1.sign)(a2:a.xs.length<=80000)(a3:m.1.seqs.length<=80000)(a4:c.length<=80000)(a5:g.1.terms.length<=80000):Calls P 100 #[.pointer (S ⟨b,0,N⟩),.string ⟨#[41]⟩] w λR w'=>QS w B b (a.st.closed.term (a.xs.length+1) m.1.sign) (I J 0) R w':=by
 obtain⟨O,c4,L,fz⟩:=h.c3;rw[W]at O;obtain⟨oa,oc,x⟩:=zl h.op;rw[x]at L;have a6:¬(a.os.length:Int)<2:=by rw[e];simp;omega
 have r:=zcb w B b a z h (c++[g]) m e (by omega) (by omega) (by simp;omega);have v:a.st.closed.os=c.map (·.1)++[g.1]:=by show a.st.os.dropLast=_;simp[MV.st,e]
 have y:a.st.closed.xs.length=a.xs.length+2:=by unfold ST.closed ST.slash;simp[ST.add,ST.setTop,MV.st]
 have G:=z6 v;have H:=z6 y;clear h x v y e;go_enter func100,ntmps100;go_wp2_with fail;refine r.mono ?_;rintro U w1⟨rfl,i,a0,o,l,d⟩;obtain⟨A,m1,u,t,s⟩:=zbZ (M:=i) (by rw[d];exact G.out);have Y:i.xs.length=a.xs.length+2:=by have:=H.out;rw[<-d]at this;simpa[MV.st]using this
 have V:A.length=c.length:=by rw[<-List.length_map (f:=(·.1)),t];simp
 have j:=VP w1 B b i a0 o A m1 u (a.xs.length+1) m.1.sign X (by omega) (by rw[s];omega) (by omega);rw[d]at j;have F:=z6 l;clear r o d u l Y V t s;go_wp2_with fail;refine j.mono ?_;rintro U D⟨rfl,K,a1,p,n,q⟩;have E:Hid (∃k Z,Mem D B b k Z (· =0)/\KT B w D/\k.st=a.st.closed.term (a.xs.length+1) m.1.sign):=⟨K,a1,p,F.out.trans n,q⟩;clear j p n q;go_wp2_with fail;go_ret;exact⟨rfl,E.out⟩
theorem infoRRule:(prog.info? 90).map (λi=>(i.zero,i.size,i.bytes))=S (S (.agg #[.string ⟨#[]⟩,I J 0]),2,24):=by kernel_rfl
theorem Mem.pushOpen{w f:World}{B i:Nat}{M:MV}{F:Nat->Nat}(h:Mem w B i M F (· =0)){sg:z7}{g l:Nat}(K:f.ownsRow B 209 3 (.slice (S ⟨g,0,N⟩) (M.os.length+1) l) (M.os.length+1) (M.os.flatMap opC++[.slice N 0 0,.slice N 0 0,.string ⟨sg.toArray⟩]))(d:w.grownBy f M.vo.ownBlock)(W:M.vo.ownBlock=S g\/g=w.heap.size):Mem (f.setCell ⟨i,2,N⟩ (.slice (S ⟨g,0,N⟩) (M.os.length+1) l)) B i {M with vo:=.slice (S ⟨g,0,N⟩) (M.os.length+1) l,os:=M.os++[(⟨[],[],sg⟩,.slice N 0 0,.slice N 0 0)]} F (· =0)/\KT B w (f.setCell ⟨i,2,N⟩ (.slice (S ⟨g,0,N⟩) (M.os.length+1) l)):=by
 have o:∀{e:TypeId} {s:Nat} {u:Value} {r:Nat} {m:List Value},w.ownsRow B e s u r m->e≠209->f.ownsRow B e s u r m:=by intro e s u r m q z;exact Z6 q (λb a=>d.block b (q.lt b a).2 (λx=>Ki q h.op z x.symm a))
 have A:f.heap[i]?=S (rdO M.vx M.vr M.vo M.sign M.may):=by rw[d.block i h.lt (λe=>zn h.op h.blk (by decide) e.symm)];exact h.blk
 have c:=Chg.set i 2 (.slice (S ⟨g,0,N⟩) (M.os.length+1) l) f;have X:=h.ge;have Y:=h.lt;have j:∀{e:TypeId} {s:Nat} {u:Value} {r:Nat} {m:List Value},f.ownsRow B e s u r m->e≠204->(f.setCell ⟨i,2,N⟩ (.slice (S ⟨g,0,N⟩) (M.os.length+1) l)).ownsRow B e s u r m:=λq z=>zq c q (zn q A z);refine⟨⟨h.ge,by rw[Jo A];rfl,j (o h.ex (by decide)) (by decide),j (o h.ru (by decide)) (by decide),?_,λp v=>j (o (h.items p v) (by decide)) (by decide),λp v=>⟨j (o (h.parts p v).1 (by decide)) (by decide),(h.parts p v).2⟩,?_⟩,?_⟩;·have:=j K (by decide);simpa[opC]using this
 ·intro k n;simp only[]at n|-;by_cases D:k<M.os.length;·rw[List.getElem_append_left D];obtain⟨L,O,R,U⟩:=h.opens k D;exact⟨j (o L (by decide)) (by decide),O,j (o R (by decide)) (by decide),U⟩
  ·have J:k=M.os.length:=by simp at n;omega
   subst J;rw[List.getElem_append_right (Nat.le_refl _)];simp only[Nat.sub_self,List.getElem_cons_zero];exact⟨World.ownsRow_nil _ _ _ _,λb a=>by simp[Value.ownBlock]at a,World.ownsRow_nil _ _ _ _,λb a=>by simp[Value.ownBlock]at a⟩
 ·refine KT.trans ⟨d.os,d.tape,d.output,d.size,?_,?_⟩ (KT.chg c (by have:=d.size;omega) h.ge (λG t H a=>by rw[A]at a;simp at a;rw[<-a.2.1];decide));·intro k n;refine d.block k (by omega) (λx=> ?_);have:=(h.op.lt k x.symm).1;omega
  ·intro k G t H n E;refine d.block k (za n) (λe=> ?_);obtain⟨V,y⟩:=Qw h.op e.symm;rw[n]at y;simp at y;rw[y.2.1]at E;exact E (by decide)
theorem Mem.pushRule{w d:World}{B f:Nat}{M:MV}{E:Nat->Nat}(h:Mem w B f M E (· =0)){F:z7}{g j:Nat}(K:d.ownsRow B 90 2 (.slice (S ⟨g,0,N⟩) (M.rs.length+1) j) (M.rs.length+1) (M.rs.flatMap ruC++[.string ⟨F.toArray⟩,I J 0]))(a:w.grownBy d M.vr.ownBlock)(W:M.vr.ownBlock=S g\/g=w.heap.size):Mem (d.setCell ⟨f,1,N⟩ (.slice (S ⟨g,0,N⟩) (M.rs.length+1) j)) B f {M with vr:=.slice (S ⟨g,0,N⟩) (M.rs.length+1) j,rs:=M.rs++[(F,0)]} E (· =0)/\KT B w (d.setCell ⟨f,1,N⟩ (.slice (S ⟨g,0,N⟩) (M.rs.length+1) j)):=by
 have n:∀{e:TypeId} {r:Nat} {u:Value} {q:Nat} {l:List Value},w.ownsRow B e r u q l->e≠90->d.ownsRow B e r u q l:=by intro e r u q l o z;exact Z6 o (λb m=>a.block b (o.lt b m).2 (λx=>Ki o h.ru z x.symm m))
 have A:d.heap[f]?=S (rdO M.vx M.vr M.vo M.sign M.may):=by rw[a.block f h.lt (λe=>zn h.ru h.blk (by decide) e.symm)];exact h.blk
 have c:=Chg.set f 1 (.slice (S ⟨g,0,N⟩) (M.rs.length+1) j) d;have X:=h.ge;have Y:=h.lt;have i:∀{e:TypeId} {r:Nat} {u:Value} {q:Nat} {l:List Value},d.ownsRow B e r u q l->e≠204->(d.setCell ⟨f,1,N⟩ (.slice (S ⟨g,0,N⟩) (M.rs.length+1) j)).ownsRow B e r u q l:=λo z=>zq c o (zn o A z);refine⟨⟨h.ge,by rw[Jo A];rfl,i (n h.ex (by decide)) (by decide),?_,i (n h.op (by decide)) (by decide),λp v=>i (n (h.items p v) (by decide)) (by decide),λp v=>⟨i (n (h.parts p v).1 (by decide)) (by decide),(h.parts p v).2⟩,?_⟩,?_⟩;·have:=i K (by decide);simpa[ruC]using this
 ·intro k s;obtain⟨L,O,R,U⟩:=h.opens k s;exact⟨i (n L (by decide)) (by decide),O,i (n R (by decide)) (by decide),U⟩
 ·refine KT.trans ⟨a.os,a.tape,a.output,a.size,?_,?_⟩ (KT.chg c (by have:=a.size;omega) h.ge (λG t H m=>by rw[A]at m;simp at m;rw[<-m.2.1];decide));·intro k s;refine a.block k (by omega) (λx=> ?_);have:=(h.ru.lt k x.symm).1;omega
  ·intro k G t H s D;refine a.block k (za s) (λe=> ?_);obtain⟨V,y⟩:=Qw h.ru e.symm;rw[s]at y;simp at y;rw[y.2.1]at D;exact D (by decide)
theorem zih(w:World)(B a:Nat)(M:MV)(r:Nat->Nat)(h:Mem w B a M r (· =0))(hd:M.os.length<=6):Calls P 100 #[.pointer (S ⟨a,0,N⟩),.string ⟨#[40]⟩] w λy w'=>QS w B a {M.st with os:=M.st.os++[⟨[],[],M.sign⟩],sign:=[],may:=false} (I J 0) y w':=by
 obtain⟨V,K,O,R,U⟩:=info_parts infoOpen;obtain⟨v,x,k,c⟩:=h.c3;obtain⟨Z,oc,d⟩:=zl h.op;rw[d]at k;have o:w.ownsRow B 209 3 (.slice Z M.os.length oc) M.os.length (M.os.flatMap opC):=by rw[<-d];exact h.op
 have a1:¬(6:Int)<(M.os.length:Int):=by omega
 have a2:=h.ge;have L:=h.lt;have z:=c 2;have A:=c 3;have D:=c 4;have H:=z6 h;have i:=z6 d;have s:Hid (M.os.length+1<=maxLen):=by show _<=_;unfold maxLen;omega
 clear h d c;go_enter func100,ntmps100;go_wp2_with(first|(at_builtin;refine wpList_append_lies _ rfl _ _ 202 rfl B 209 V _ 3 64 underlying202 K O R U rfl (by decide) _ _ _ rfl (o.alloc _) ⟨w.heap.size,0,N⟩ 1 1 [.slice N 0 0,.slice N 0 0,.string ⟨M.sign.toArray⟩] rfl rfl ?c1 ?c2 (by decide) s.out ?c4 ?c5 (w.heap.size+1) (by simp) ?_));case c2=>first|exact⟨rfl,rfl⟩|(intro u q;simp at q;rcases q with rfl|rfl<;>rfl)
 case c4=>omega
 case c5=>first|omega|(simp;omega)
 intro g a0 f p j n a3;have l:=H.out.below (lab':=r) (w':=w.alloc (.cells #[.slice N 0 0,.slice N 0 0,.string ⟨M.sign.toArray⟩] 209)) (zc _ _) (λ_ _=>rfl);have m:=l.pushOpen p (by rw[i.out];exact j) (by rw[i.out];simpa using n);have b:f.heap[a]?=S (rdO M.vx M.vr M.vo M.sign M.may):=by rw[j.block a (by simp;omega) (λe=>by rw[<-i.out]at e;exact zn H.out.op H.out.blk (by decide) e.symm)];rw[zm _ _ L];exact H.out.blk
 have d2:f.cell? ⟨a,2,N⟩=S M.vo:=z8 b 2;have d3:f.cell? ⟨a,3,N⟩=S (.string ⟨M.sign.toArray⟩):=z8 b 3;have d4:f.cell? ⟨a,4,N⟩=S (.bool M.may):=z8 b 4;have df:=zi b;have t:=z6 m;clear l m b o p j n k v x z A D;go_wp2_with fail;obtain⟨E,W⟩:=t.out;obtain⟨F,X⟩:=E.setSign [];obtain⟨G,Y⟩:=F.setMay false;go_ret;refine⟨rfl,_,_,G,(KT.alloc B w (by omega) _).trans (W.trans (X.trans Y)),?_⟩;simp[MV.st]
theorem zie(w:World)(B a:Nat)(M:MV)(t:Nat->Nat)(h:Mem w B a M t (· =0))(f:List (OP×Value×Value))(m:OP×Value×Value)(q:M.os=f++[m])(K:M.sign=[]\/okA M.sign)(a0:M.xs.length<=90000)(a1:m.1.terms.length<=90000)(a2:f.length<=90000):Calls P 100 #[.pointer (S ⟨a,0,N⟩),.string ⟨#[46]⟩] w λF R=>QS w B a ((({M.st with sign:=[]}:ST).add ⟨3,[],[],0,[]⟩).term M.xs.length M.sign) (I J 0) F R:=by obtain⟨Y,Z,X,i⟩:=h.c3;obtain⟨c,s⟩:=h.setSign [];obtain⟨V,W,d⟩:=zl h.ex;have e:=YG _ B a V W M.xs.length M.vr M.vo [] M.may (M.xs.flatMap exC) 3 N 0 0 ⟨#[]⟩ 0 N 0 0 (by rw[<-d];exact c.blk) (by rw[<-d];exact c.ex) (by omega) c.ge;simp only[show((3:Nat):Int)=3 from rfl]at e;have v:=z6 c;have D:=z6 s;have A:=z6 d;have z:=z6 q;have f3:=i 3;clear h c s d q i;go_enter func100,ntmps100;go_wp2_with fail;refine e.mono ?_;rintro G U⟨xg,a3,rfl,j⟩;obtain⟨n,k⟩:=v.out.add (re:=⟨3,[],[],0,[]⟩) (iv:=.slice N 0 0) (pv:=.slice N 0 0) (by rw[A.out];exact j) (World.ownsRow_nil _ _ _ _) (World.ownsRow_nil _ _ _ _) (λb H=>by simp[Value.ownBlock]at H);have r:=VP U B a _ t n f m z.out M.xs.length M.sign K (by simp;omega) (by omega) (by omega);have y:=z6 k;clear e j n k;go_wp2_with fail;refine r.mono ?_;rintro G u⟨rfl,E,O,o,l,p⟩;have x:Hid (∃g L,Mem u B a g L (· =0)/\KT B w u/\g.st=(({M.st with sign:=[]}:ST).add ⟨3,[],[],0,[]⟩).term M.xs.length M.sign):=⟨E,O,o,D.out.trans (y.out.trans l),by rw[p];simp[MV.st,ST.add]⟩;clear r o l p;go_wp2_with fail;go_ret;exact⟨rfl,x.out⟩
end
def Zb(t:Tok):RE:=match t.kind with| .name=>⟨4,[],t.text,0,[]⟩| .lit=>⟨1,t.text.map (λc=>(c,c)),[],0,[]⟩| .cls=>⟨2,t.spans,[],0,[]⟩|_=>⟨3,[],[],0,[]⟩
def ST.rule(S:ST):ST:=if S.rs=[]then S else {S.closed with rs:=S.rs.dropLast++[((S.rs.getLastD ([],0)).1,S.xs.length+1)]}
def ST.lay(S:ST)(e:RE):ST:=(({S with sign:=[]}:ST).add e).term S.xs.length S.sign
def ST.signs(S:ST)(c:UInt8):Except Nat ST:=if c=47 then(if S.sign=[]then .ok {S.slash with may:=false}else .error 2)else if c=38\/c=33 then(if S.sign=[]then .ok {S with sign:=[c],may:=false}else .error 2)else if c=63\/c=42\/c=43 then(if S.may=true then .ok (S.behind [c])else .error 2)else if c=40 then(if 6<S.os.length then .error 3 else .ok {S with os:=S.os++[⟨[],[],S.sign⟩],sign:=[],may:=false})else if c=41 then(if S.sign=[]/\2<=S.os.length then .ok (S.closed.term (S.xs.length+1) S.top.sign)else .error 2)else .ok (S.lay ⟨3,[],[],0,[]⟩)
def ST.begin(S:ST)(b:z7):ST:={S.rule with rs:=S.rule.rs++[(b,0)],os:=S.rule.os++[⟨[],[],[]⟩],may:=false}
def run:List Tok->ST->Except (Nat×Nat) ST
 |[],_=>.error (0,0)
 |t::rest,S'=>
  match t.kind with
  | .bad=>.error (2,t.place)
  | .fin=>if S'.rs=[]\/S'.sign≠[]\/1<S'.os.length then .error (2,t.place)else .ok S'.rule
  | .arrow=>.error (2,t.place)
  | .sign c=>if S'.rs=[]then .error (2,t.place)else
   match S'.signs c with
   | .error e=>.error (e,t.place)
   | .ok S'=>run rest S'
  | .lit=>if S'.rs=[]then .error (2,t.place)else run rest (S'.lay (Zb t))
  | .cls=>if S'.rs=[]then .error (2,t.place)else run rest (S'.lay (Zb t))
  | .name=>
   match rest with
   |[]=>.error (0,0)
   |m::rest'=>
    if m.kind.isArrow then
     (if S'.sign≠[]\/1<S'.os.length then .error (2,m.place)else if 20<=S'.rs.length then .error (4,m.place)else run rest' (S'.begin t.text))
    else if S'.rs=[]then .error (2,m.place)else run (m::rest') (S'.lay (Zb t))
theorem VQ{t:Tok}{a:List Tok}{S:ST}(h:t.kind=.bad):run (t::a) S=.error (2,t.place):=by unfold run;simp only[h]
theorem VR{t:Tok}{a:List Tok}{S:ST}(h:t.kind=.fin):run (t::a) S=if S.rs=[]\/S.sign≠[]\/1<S.os.length then .error (2,t.place)else .ok S.rule:=by unfold run;simp only[h]
theorem KV{t:Tok}{a:List Tok}{S:ST}(h:t.kind=.arrow):run (t::a) S=.error (2,t.place):=by unfold run;simp only[h]
theorem JW{t:Tok}{a:List Tok}{S:ST}{c:UInt8}(h:t.kind=.sign c)(d:S.rs≠[]):run (t::a) S=match S.signs c with| .error e=>.error (e,t.place)| .ok b=>run a b:=by rw[run.eq_def];simp only[h,if_neg d]
theorem zcw{t:Tok}{a:List Tok}{S:ST}(h:t.kind=.lit)(b:S.rs≠[]):run (t::a) S=run a (S.lay (Zb t)):=by rw[run.eq_def];simp only[h,if_neg b]
theorem zcv{t:Tok}{a:List Tok}{S:ST}(h:t.kind=.cls)(b:S.rs≠[]):run (t::a) S=run a (S.lay (Zb t)):=by rw[run.eq_def];simp only[h,if_neg b]
theorem zcx{t m:Tok}{a:List Tok}{S:ST}(h:t.kind=.name)(c:S.rs≠[])(b:m.kind.isArrow=false):run (t::m::a) S=run (m::a) (S.lay (Zb t)):=by rw[run];simp only[h,b,if_neg c,Bool.false_eq_true,if_false]
theorem UZ{t m:Tok}{a:List Tok}{S:ST}(h:t.kind=.name)(b:m.kind.isArrow=true):run (t::m::a) S=if S.sign≠[]\/1<S.os.length then .error (2,m.place)else if 20<=S.rs.length then .error (4,m.place)else run a (S.begin t.text):=by rw[run];simp only[h,b,if_true]
def Wf:List Tok->Prop
 |[]=>False
 |t::r=>(∀c,t.kind=.sign c->Qf c=true)/\if t.kind.last then r=[]else Wf r
theorem Wf.form{a:List Tok}(h:Wf a):∃t r,a=t::r/\(∀c,t.kind=.sign c->Qf c=true)/\(t.kind.last=false->Wf r):=by
 cases a with
 |nil=>exact h.elim|cons t r=>exact⟨t,r,rfl,h.1,λb=>by have:=h.2;rw[if_neg (by simp[b])]at this;exact this⟩
def Kz(a:List Tok):Prop:=(hd a).kind=.sign 63\/(hd a).kind=.sign 42\/(hd a).kind=.sign 43
mutual
def zw(xs:List RE)(k:Nat):zC->Prop
  | .name b=>xs[k]?=some ⟨4,[],b,0,[]⟩
  | .lit b=>xs[k]?=some ⟨1,b.map (λc=>(c,c)),[],0,[]⟩
  | .cls l=>xs[k]?=some ⟨2,l,[],0,[]⟩
  | .any=>xs[k]?=some ⟨3,[],[],0,[]⟩
  | .group c=>∃qs,xs[k]?=some ⟨6,[],[],0,qs⟩/\zZ xs qs c
def Zw(xs:List RE)(k:Nat):Term->Prop
  | .mk a p b=>∃i j,(if a=0 then k=i else xs[k]?=some (zy (zE [a]) i))/\(if b=0 then i=j else xs[i]?=some (zy (zE [b]) j))/\zw xs j p/\(b=0\/b=63\/b=42\/b=43)/\(a=0\/a=38\/a=33)
def Z7(xs:List RE):List Nat->List Term->Prop
  |ks,[]=>ks=[]
  |ks,t::s=>∃k ks',ks=k::ks'/\Zw xs k t/\Z7 xs ks' s
def zZ(xs:List RE):List Nat->List (List Term)->Prop
  |qs,[]=>qs=[]
  |qs,s::c=>∃q qs' ks,qs=q::qs'/\xs[q]?=some ⟨5,[],[],0,ks⟩/\Z7 xs ks s/\zZ xs qs' c
 end
theorem YF{b c:List RE}(h:b<+:c){k:Nat}{e:RE}(a:b[k]?=S e):c[k]?=S e:=by obtain⟨d,rfl⟩:=h;rw[List.getElem?_append_left (List.getElem?_eq_some_iff.1 a).1];exact a
mutual
theorem zw.mono{xs ys:List RE}(h:xs<+:ys){k:Nat}:∀p:zC,zw xs k p->zw ys k p
  | .name b=>by simp only[zw];exact YF h
  | .lit b=>by simp only[zw];exact YF h
  | .cls l=>by simp only[zw];exact YF h
  | .any=>by simp only[zw];exact YF h
  | .group c=>by
    simp only[zw]
    rintro⟨qs,h1,h2⟩
    exact⟨qs,YF h h1,zZ.mono h c h2⟩
theorem Zw.mono{xs ys:List RE}(h:xs<+:ys){k:Nat}:∀t:Term,Zw xs k t->Zw ys k t
  | .mk a p b=>by
    simp only[Zw]
    rintro⟨i,j,h1,h2,h3,h4⟩
    refine⟨i,j,?_,?_,zw.mono h p h3,h4⟩
    · split
      · rename_i ha;rw[if_pos ha]at h1;exact h1
      · rename_i ha;rw[if_neg ha]at h1;exact YF h h1
    · split
      · rename_i ha;rw[if_pos ha]at h2;exact h2
      · rename_i ha;rw[if_neg ha]at h2;exact YF h h2
theorem Z7.mono{xs ys:List RE}(h:xs<+:ys):∀{ks:List Nat} (s:List Term),Z7 xs ks s->Z7 ys ks s
  |ks,[]=>by simp only[Z7];exact id
  |ks,t::s=>by
    simp only[Z7]
    rintro⟨k,ks',h1,h2,h3⟩
    exact⟨k,ks',h1,Zw.mono h t h2,Z7.mono h s h3⟩
theorem zZ.mono{xs ys:List RE}(h:xs<+:ys):∀{qs:List Nat} (c:List (List Term)),zZ xs qs c->zZ ys qs c
  |qs,[]=>by simp only[zZ];exact id
  |qs,s::c=>by
    simp only[zZ]
    rintro⟨q,qs',ks,h1,h2,h3,h4⟩
    exact⟨q,qs',ks,h1,YF h h2,Z7.mono h s h3,zZ.mono h c h4⟩
 end
theorem VX(T:ST)(j:Nat)(a:z7):(T.term j a).xs=if a=[]then T.xs else T.xs++[zy (zE a) j]:=by unfold ST.term;split<;>simp[ST.push,ST.setTop,ST.add]
theorem Kk(T:ST)(j:Nat)(b:z7){pre:List OP}{o:OP}(h:T.os=pre++[o]):(T.term j b).os=pre++[{o with terms:=o.terms++[if b=[]then j else T.xs.length]}]:=by
 unfold ST.term;split;·rename_i a;simp[ST.push,ST.setTop,ST.top,h,List.getLastD_concat,a]
 ·rename_i a;simp[ST.push,ST.setTop,ST.top,ST.add,h,List.getLastD_concat]
theorem VW(T:ST)(j:Nat)(a:z7):(T.term j a).rs=T.rs:=by unfold ST.term;split<;>simp[ST.push,ST.setTop,ST.add]
theorem zaz(T:ST)(j:Nat)(a:z7):(T.term j a).sign=T.sign:=by unfold ST.term;split<;>simp[ST.push,ST.setTop,ST.add]
theorem zd6(T:ST)(j:Nat)(a:z7):(T.term j a).may=true:=by unfold ST.term;split<;>simp[ST.push]
structure Laid(S:ST)(pre:List OP)(o:OP)(pc:zC)(S':ST)(xs1:List RE)(j:Nat):Prop where
 ext:S.xs<+:xs1
 den:zw xs1 j pc
 xs:S'.xs=if S.sign=[]then xs1 else xs1++[zy (zE S.sign) j]
 os:S'.os=pre++[{o with terms:=o.terms++[if S.sign=[]then j else xs1.length]}]
 rs:S'.rs=S.rs
 sign:S'.sign=[]
 may:S'.may=true
structure U6(d:Nat)(ts:List Tok)(S:ST)(pre:List OP)(o:OP):Prop where
 wf:Wf ts
 os:S.os=pre++[o]
 len:pre.length=d
 rs:S.rs≠[]
 deep:d<=6
 sg:S.sign=[]\/((S.sign=[38]\/S.sign=[33])/\S.may=false)
 here:S.sign=[]->zX d ts=true/\(hd ts).kind≠.sign 38/\(hd ts).kind≠.sign 33
def MPc(d:Nat)(a:List Tok)(r:Res zC):Prop:=∀S c o,U6 d a S c o->match r with| .err e p=>run a S=.error (e,p)| .ok g f=>Wf f/\∃b h j,run a S=run f b/\Laid S c o g b h j
structure QG(d:Nat)(ts:List Tok)(S:ST)(pre:List OP)(o:OP):Prop where
 wf:Wf ts
 os:S.os=pre++[o]
 len:pre.length=d
 rs:S.rs≠[]
 deep:d<=6
 sign:S.sign=[]
 may:S.may=true->¬Kz ts
def MTm(d:Nat)(b:List Tok)(r:Res Term):Prop:=∀S c o,QG d b S c o->zX d b=true->match r with| .err e p=>run b S=.error (e,p)| .ok t f=>∃a k,run b S=run f a/\a.rs=S.rs/\QG d f a c {o with terms:=o.terms++[k]}/\S.xs<+:a.xs/\Zw a.xs k t
def MSq(d:Nat)(c:List Tok)(r:Res Seq):Prop:=∀S g o,QG d c S g o->match r with| .err e p=>run c S=.error (e,p)| .ok s b=>zX d b=false/\∃a f,run c S=run b a/\a.rs=S.rs/\QG d b a g {o with terms:=o.terms++f}/\S.xs<+:a.xs/\Z7 a.xs f s
def MCh(d:Nat)(f:List Tok)(r:Res Z5):Prop:=∀S i o,QG d f S i o->o.terms=[]->match r with| .err e p=>run f S=.error (e,p)| .ok c b=>zX d b=false/\(hd b).kind≠.sign 47/\∃a j h g s,run f S=run b a/\a.rs=S.rs/\QG d b a i ⟨o.seqs++j,h,o.sign⟩/\S.xs<+:a.xs/\c=g++[s]/\zZ a.xs j g/\Z7 a.xs h s
theorem UL{d:Nat}{g:List Tok}{S:ST}{a:List OP}{o:OP}(h:U6 d g S a o){e:RE}{c:zC}(hd:zw (S.xs++[e]) S.xs.length c):Laid S a o c (S.lay e) (S.xs++[e]) S.xs.length:=by
 have b:(({S with sign:=[]}:ST).add e).xs=S.xs++[e]:=rfl;have f:(({S with sign:=[]}:ST).add e).os=a++[o]:=h.os;refine⟨⟨[e],rfl⟩,hd,?_,?_,?_,?_,?_⟩;·unfold ST.lay;rw[VX,b]
 ·unfold ST.lay;rw[Kk _ _ _ f,b]
 ·unfold ST.lay;rw[VW];rfl
 ·unfold ST.lay;rw[zaz];rfl
 ·unfold ST.lay;rw[zd6]
theorem YA{a:List RE}{e:RE}:(a++[e])[a.length]?=S e:=by simp
theorem zgd{d:Nat}{k:List Tok}{p:zC}(b:zU (hd k)=some p):MPc d k (.ok p k.tail):=by
 intro S z o h;obtain⟨t,r,rfl,x,i⟩:=h.wf.form;simp only[hd,List.headD_cons]at b;simp only[List.tail_cons];have y:S.os.length=d+1:=by rw[h.os];simp[h.len]
 have j:=h.rs;cases a:t.kind with
 |name=>
  simp only[zU,a,Option.some.injEq]at b;subst b;have q:=i (by rw[a];rfl);have f:zw (S.xs++[Zb t]) S.xs.length (.name t.text):=by simp only[zw,YA,Zb,a]
  refine⟨q,S.lay (Zb t),S.xs++[Zb t],S.xs.length,?_,UL h f⟩;obtain⟨m,A,rfl,_⟩:=q.form;by_cases g:m.kind.isArrow=true
  ·have v:m.kind=.arrow:=by cases w:m.kind<;>simp[w,TK.isArrow]at g|-
   have s:S.sign≠[]\/1<S.os.length:=by
    by_cases n:S.sign=[]
    ·right;have l:=(h.here n).1;simp only[zX,hd,List.headD_cons,a,List.tail_cons,g]at l;have:d≠0:=by intro e;subst e;simp at l
     omega
    ·exact .inl n
   rw[UZ a g,if_pos s,KV v]
  ·exact zcx a j (by simpa using g)
 |lit=>
  simp only[zU,a,Option.some.injEq]at b;subst b;have f:zw (S.xs++[Zb t]) S.xs.length (.lit t.text):=by simp only[zw,YA,Zb,a]
  refine⟨i (by rw[a];rfl),S.lay (Zb t),S.xs++[Zb t],S.xs.length,zcw a j,UL h f⟩
 |cls=>
  simp only[zU,a,Option.some.injEq]at b;subst b;have f:zw (S.xs++[Zb t]) S.xs.length (.cls t.spans):=by simp only[zw,YA,Zb,a]
  refine⟨i (by rw[a];rfl),S.lay (Zb t),S.xs++[Zb t],S.xs.length,zcv a j,UL h f⟩
 |sign c=>
  simp only[zU,a]at b;split at b
  ·rename_i u;subst u;simp only[Option.some.injEq]at b;subst b;have f:zw (S.xs++[⟨3,[],[],0,[]⟩]) S.xs.length .any:=by simp only[zw,YA]
   refine⟨i (by rw[a];rfl),S.lay ⟨3,[],[],0,[]⟩,S.xs++[⟨3,[],[],0,[]⟩],S.xs.length,?_,UL h f⟩;rw[JW a j];simp[ST.signs]
  ·cases b
 |fin=>simp[zU,a]at b|bad=>simp[zU,a]at b|arrow=>simp[zU,a]at b
theorem VS{c:UInt8}(h:Qf c=true):c=47\/c=38\/c=33\/c=63\/c=42\/c=43\/c=40\/c=41\/c=46:=by simpa[Qf]using h
theorem zg5{d:Nat}{j:List Tok}(b:zU (hd j)=N)(i:(hd j).kind≠.sign 40):MPc d j (.err 2 (hd j).place):=by
 intro S x o h;obtain⟨t,r,rfl,u,w⟩:=h.wf.form;simp only[hd,List.headD_cons]at b i|-;have v:=h.rs;have f:S.sign≠[]/\S.may=false:=by
  rcases h.sg with f|⟨f,p⟩
  ·exfalso;obtain⟨g,n,m⟩:=h.here f;simp only[hd,List.headD_cons]at n m;simp only[zX,hd,List.headD_cons]at g;cases a:t.kind with
   |sign c=>
    simp only[a]at g i n m;simp only[zU,a]at b;have k:c≠46:=by intro e;subst e;simp at b
    have l:c≠40:=by intro e;subst e;exact i rfl
    have q:c≠38:=by intro e;subst e;exact n rfl
    have s:c≠33:=by intro e;subst e;exact m rfl
    simp[k,l,q,s]at g
   |name=>simp[zU,a]at b|lit=>simp[zU,a]at b|cls=>simp[zU,a]at b|fin=>simp[a]at g|bad=>simp[a]at g|arrow=>simp[a]at g
  ·exact⟨by rcases f with f|f<;>rw[f]<;>simp,p⟩
 obtain⟨f,p⟩:=f;cases a:t.kind with
 |sign c=>
  simp only[zU,a]at b;have k:c≠46:=by intro e;subst e;simp at b
  have l:c≠40:=by intro e;subst e;exact i a
  rw[JW a v];rcases VS (u c a)with rfl|rfl|rfl|rfl|rfl|rfl|rfl|rfl|rfl<;>simp[ST.signs,f,p]at k l|-
 |name=>simp[zU,a]at b|lit=>simp[zU,a]at b|cls=>simp[zU,a]at b|fin=>rw[VR a];simp[f]|bad=>rw[VQ a]|arrow=>rw[KV a]
theorem zga{a:List Tok}(b:(hd a).kind=.sign 40):MPc 6 a (.err 3 (hd a).place):=by
 intro S f o h;obtain⟨t,r,rfl,d,e⟩:=h.wf.form;simp only[hd,List.headD_cons]at b|-;have c:S.os.length=7:=by rw[h.os];simp[h.len]
 rw[JW b h.rs];simp[ST.signs,c]
theorem zeI{d:Nat}{e:List Tok}{S:ST}{n:List OP}{o:OP}(h:QG d e S n o)(j:d≠0)(b:zX d e=false)(i:(hd e).kind≠.sign 47)(g:(hd e).kind≠.sign 41):run e S=.error (2,(hd e).place):=by
 obtain⟨t,r,rfl,k,p⟩:=h.wf.form;have f:=h.may;simp only[hd,List.headD_cons,Kz]at b i g f|-;have m:=h.rs;have l:1<S.os.length:=by rw[h.os];simp[h.len];omega
 simp only[zX,hd,List.headD_cons]at b;cases a:t.kind with
 |sign c=>simp only[a]at b i g f;rw[JW a m];rcases VS (k c a)with rfl|rfl|rfl|rfl|rfl|rfl|rfl|rfl|rfl<;>simp[ST.signs]at b i g f|- <;>simp[f]
 |name=>simp[a,j]at b|lit=>simp[a]at b|cls=>simp[a]at b|fin=>rw[VR a];simp[l]|bad=>rw[VQ a]|arrow=>rw[KV a]
theorem za1{d:Nat}{a:List Tok}{S:ST}{c:List OP}{o:OP}(h:U6 d a S c o)(b:(hd a).kind=.sign 40)(f:d≠6):run a S=run a.tail {S with os:=S.os++[⟨[],[],S.sign⟩],sign:=[],may:=false}/\QG (d+1) a.tail {S with os:=S.os++[⟨[],[],S.sign⟩],sign:=[],may:=false} (c++[o]) ⟨[],[],S.sign⟩:=by
 obtain⟨t,r,rfl,i,e⟩:=h.wf.form;simp only[hd,List.headD_cons]at b;have j:S.os.length=d+1:=by rw[h.os];simp[h.len]
 have g:=h.deep;refine⟨?_,⟨e (by rw[b];rfl),by simp[h.os],by simp[h.len],h.rs,by omega,rfl,by simp⟩⟩;have:¬6<S.os.length:=by omega
 simp only[List.tail_cons];rw[JW b h.rs];simp[ST.signs,this]
theorem VT{S:ST}{a:List OP}{o:OP}(h:S.os=a++[o]):S.slash.os=a++[⟨o.seqs++[S.xs.length],[],o.sign⟩]/\S.slash.xs=S.xs++[⟨5,[],[],0,o.terms⟩]/\S.slash.rs=S.rs/\S.slash.sign=S.sign:=by simp[ST.slash,ST.setTop,ST.add,ST.top,h,List.getLastD_concat]
theorem KG{S:ST}{a:List OP}{o:OP}(h:S.os=a++[o]):S.closed.os=a/\S.closed.xs=S.xs++[⟨5,[],[],0,o.terms⟩]++[⟨6,[],[],0,o.seqs++[S.xs.length]⟩]/\S.closed.rs=S.rs/\S.closed.sign=S.sign:=by obtain⟨e,b,c,d⟩:=VT h;simp[ST.closed,ST.add,b,c,d,ST.top,h,List.getLastD_concat]
theorem zZ.snoc{b:List RE}:∀{a:List Nat} (c:List (List Term)) {q:Nat} {ks:List Nat} {s:List Term},zZ b a c->b[q]?=S ⟨5,[],[],0,ks⟩->Z7 b ks s->zZ b (a++[q]) (c++[s])
 |a,[],q,ks,s=>by intro h d e;simp only[zZ]at h;subst h;simp only[List.nil_append,zZ];exact⟨q,[],ks,rfl,d,e,rfl⟩
 |a,l::c,q,ks,s=>by intro h d e;simp only[zZ]at h;obtain⟨j,k,i,rfl,f,g,g3⟩:=h;simp only[List.cons_append,zZ];exact⟨j,k++[q],i,rfl,f,g,zZ.snoc c g3 d e⟩
theorem zgb{d:Nat}{j:List Tok}{c:Z5}{i:List Tok}(D:(hd j).kind=.sign 40)(B:d≠6)(f:(hd i).kind=.sign 41)(H:MCh (d+1) j.tail (.ok c i)):MPc d j (.ok (.group c) i.tail):=by
 intro S K o h;obtain⟨z,A⟩:=za1 h D B;obtain⟨_,_,a,m,l,k,s,n,v,b,p,rfl,q,u⟩:=H _ _ _ A rfl;obtain⟨t,r,rfl,J,F⟩:=b.wf.form;simp only[hd,List.headD_cons]at f;simp only[List.nil_append]at b;obtain⟨w,e,x,y⟩:=KG b.os;have E:2<=a.os.length:=by rw[b.os];simp
 have G:a.top.sign=S.sign:=by simp[ST.top,b.os,List.getLastD_concat]
 have g:a.xs<+:a.closed.xs:=by rw[e];exact⟨[⟨5,[],[],0,l⟩,⟨6,[],[],0,m++[a.xs.length]⟩],by simp⟩
 refine⟨F (by rw[f];rfl),a.closed.term (a.xs.length+1) S.sign,a.closed.xs,a.xs.length+1,?_,?_⟩;·rw[z,n];rw[JW f b.rs];simp[ST.signs,b.sign,E,G]
 ·refine⟨p.trans g,?_,VX _ _ _,Kk _ _ _ w,?_,?_,zd6 _ _ _⟩;·simp only[zw];refine⟨m++[a.xs.length],by rw[e];simp,zZ.snoc k (zZ.mono g k q) (ks:=l) (by rw[e];simp) (Z7.mono g s u)⟩
  ·rw[VW,x,v]
  ·rw[zaz,y];exact b.sign
theorem zgk{d:Nat}{a:List Tok}{c:Z5}{b:List Tok}(n:(hd a).kind=.sign 40)(m:d≠6)(l:(hd b).kind≠.sign 41)(p:MCh (d+1) a.tail (.ok c b)):MPc d a (.err 2 (hd b).place):=by intro S v o h;obtain⟨g,i⟩:=za1 h n m;obtain⟨k,j,q,w,u,r,s,e,t,f,_⟩:=p _ _ _ i rfl;show run a S=_;rw[g,e];exact zeI f (by omega) k j l
theorem zgc{d:Nat}{a:List Tok}{e p:Nat}(g:(hd a).kind=.sign 40)(f:d≠6)(i:MCh (d+1) a.tail (.err e p)):MPc d a (.err e p):=by intro S j o h;obtain⟨b,c⟩:=za1 h g f;show run a S=_;rw[b];exact i _ _ _ c rfl
theorem zw.kind{a:List RE}{j:Nat}{p:zC}(h:zw a j p):∃x,a[j]?=S x/\¬(x.kind=10\/x.kind=11):=by
 cases p with
 |name b=>simp only[zw]at h;exact⟨_,h,by simp⟩|lit b=>simp only[zw]at h;exact⟨_,h,by simp⟩|cls l=>simp only[zw]at h;exact⟨_,h,by simp⟩|any=>simp only[zw]at h;exact⟨_,h,by simp⟩|group c=>simp only[zw]at h;obtain⟨d,h,_⟩:=h;exact⟨_,h,by simp⟩
theorem zdW{t:Tok}{r:List Tok}{b:UInt8}(c:t.kind=.sign b)(a:b=63\/b=42\/b=43):Zg (t::r)=(b,r):=by unfold Zg;simp only[hd,List.headD_cons,c];rw[if_pos a];rfl
theorem zdV{b:List Tok}(h:¬Kz b):Zg b=(0,b):=by
 unfold Zg;split
 ·rename_i c a;rw[if_neg];rintro(rfl|rfl|rfl);·exact h (.inl a)
  ·exact h (.inr (.inl a))
  ·exact h (.inr (.inr a))
 ·rfl
theorem zdY{d:Nat}{S:ST}{E:List OP}{o:OP}{M:zC}{c:ST}{e:List RE}{j:Nat}{p:List Tok}{a:UInt8}(h:Laid S E o M c e j)(D:Wf p)(z:E.length=d)(v:S.rs≠[])(w:d<=6)(m:(a=0/\S.sign=[])\/(S.sign=[a]/\(a=38\/a=33))):∃q k,run p c=run (Zg p).2 q/\q.rs=S.rs/\QG d (Zg p).2 q E {o with terms:=o.terms++[k]}/\S.xs<+:q.xs/\Zw q.xs k (.mk a M (Zg p).1):=by
 obtain⟨x,L,O⟩:=h.den.kind;have R:j<e.length:=(List.getElem?_eq_some_iff.1 L).1;by_cases u:Kz p
 ·obtain⟨t,r,rfl,U,G⟩:=D.form;obtain⟨b,l,s⟩:∃b,t.kind=.sign b/\(b=63\/b=42\/b=43):=by
   simp only[Kz,hd,List.headD_cons]at u;rcases u with l|l|l;·exact⟨63,l,.inl rfl⟩
   ·exact⟨42,l,.inr (.inl rfl)⟩
   ·exact⟨43,l,.inr (.inr rfl)⟩
  have F:b≠0:=by rcases s with rfl|rfl|rfl<;>decide
  rw[zdW l s];have H:run (t::r) c=run r (c.behind [b]):=by rw[JW l (by rw[h.rs];exact v)];rcases s with rfl|rfl|rfl<;>simp[ST.signs,h.may]
  have J:c.top={o with terms:=o.terms++[if S.sign=[]then j else e.length]}:=by simp[ST.top,h.os,List.getLastD_concat]
  have y:c.top.terms.getLastD 0=if S.sign=[]then j else e.length:=by rw[J];simp[List.getLastD_concat]
  rcases m with⟨rfl,i⟩|⟨i,m⟩
  ·rw[if_pos i]at y;have g:c.xs=e:=by rw[h.xs,if_pos i]
   have B:c.xs.getD j RE.z=x:=by rw[g,List.getD_eq_getElem?_getD,L];rfl
   have f:c.behind [b]={(c.add (zy (zE [b]) j)).setTop {c.top with terms:=c.top.terms.dropLast++[c.xs.length]}with may:=false}:=by unfold ST.behind;simp only[y,B,if_neg O]
   refine⟨c.behind [b],e.length,H,?_,⟨G (by rw[l];rfl),?_,z,?_,w,?_,?_⟩,?_,?_⟩;·rw[f];exact h.rs
   ·rw[f];simp[ST.setTop,ST.add,J,h.os,i,g]
   ·rw[f];simp[ST.setTop,ST.add,h.rs,v]
   ·rw[f];simp[ST.setTop,ST.add,h.sign]
   ·rw[f];simp
   ·rw[f];simp only[ST.setTop,ST.add,g];exact h.ext.trans ⟨[zy (zE [b]) j],rfl⟩
   ·rw[f];simp only[ST.setTop,ST.add,g,Zw];refine⟨e.length,j,by simp,?_,zw.mono ⟨[zy (zE [b]) j],rfl⟩ _ h.den,.inr s,.inl (by trivial)⟩;rw[if_neg F];exact YA
  ·have n:S.sign≠[]:=by rw[i];simp
   have A:a≠0:=by rcases m with rfl|rfl<;>decide
   rw[if_neg n]at y;have g:c.xs=e++[zy (zE [a]) j]:=by rw[h.xs,if_neg n,i]
   have B:c.xs.getD e.length RE.z=zy (zE [a]) j:=by rw[g,List.getD_eq_getElem?_getD,YA];rfl
   have N:(zy (zE [a]) j).kind=10\/(zy (zE [a]) j).kind=11:=by
    rcases m with rfl|rfl;·left;rfl
    ·right;rfl
   have f:c.behind [b]={c with xs:=(c.xs++[zy (zE [b]) j]).set e.length (zy (zE [a]) c.xs.length),may:=false}:=by unfold ST.behind;simp only[y,B,if_pos N];rfl
   have K:(c.xs++[zy (zE [b]) j]).set e.length (zy (zE [a]) c.xs.length)=e++[zy (zE [a]) (e.length+1),zy (zE [b]) j]:=by rw[g];simp
   refine⟨c.behind [b],e.length,H,?_,⟨G (by rw[l];rfl),?_,z,?_,w,?_,?_⟩,?_,?_⟩;·rw[f];exact h.rs
   ·rw[f];simp[h.os,n]
   ·rw[f];simp[h.rs,v]
   ·rw[f];simp[h.sign]
   ·rw[f];simp
   ·rw[f];simp only[K];exact h.ext.trans ⟨_,rfl⟩
   ·rw[f];simp only[K,Zw];refine⟨e.length+1,j,?_,?_,zw.mono ⟨_,rfl⟩ _ h.den,.inr s,.inr m⟩;·rw[if_neg A];simp
    ·rw[if_neg F];simp
 ·rw[zdV u];rcases m with⟨rfl,i⟩|⟨i,m⟩
  ·have g:c.xs=e:=by rw[h.xs,if_pos i]
   refine⟨c,j,rfl,h.rs,⟨D,by rw[h.os,if_pos i],z,by rw[h.rs];exact v,w,h.sign,λ_=>u⟩,by rw[g];exact h.ext,?_⟩;simp only[Zw];exact⟨j,j,by simp,by simp,by rw[g];exact h.den,.inl (by trivial),.inl (by trivial)⟩
  ·have n:S.sign≠[]:=by rw[i];simp
   have A:a≠0:=by rcases m with rfl|rfl<;>decide
   have g:c.xs=e++[zy (zE [a]) j]:=by rw[h.xs,if_neg n,i]
   refine⟨c,e.length,rfl,h.rs,⟨D,by rw[h.os,if_neg n],z,by rw[h.rs];exact v,w,h.sign,λ_=>u⟩,by rw[g];exact h.ext.trans ⟨_,rfl⟩,?_⟩;simp only[Zw];refine⟨j,j,?_,by simp,by rw[g];exact zw.mono ⟨_,rfl⟩ _ h.den,.inl (by trivial),.inr m⟩;rw[if_neg A,g];exact YA
theorem zaX{d:Nat}{f:List Tok}{S:ST}{i:List OP}{o:OP}(h:QG d f S i o)(k:zX d f=true):∃g,run f S=run (Z9 f).2 g/\g.xs=S.xs/\g.rs=S.rs/\U6 d (Z9 f).2 g i o/\(((Z9 f).1=0/\g.sign=[])\/(g.sign=[(Z9 f).1]/\((Z9 f).1=38\/(Z9 f).1=33))):=by
 obtain⟨t,r,rfl,n,m⟩:=h.wf.form;by_cases a:∃c,t.kind=.sign c/\(c=38\/c=33)
 ·obtain⟨c,b,a⟩:=a;have e:Z9 (t::r)=(c,r):=by unfold Z9;simp only[hd,List.headD_cons,b];rw[if_pos a];rfl
  rw[e];refine⟨{S with sign:=[c],may:=false},?_,rfl,rfl,⟨m (by rw[b];rfl),h.os,h.len,h.rs,h.deep,.inr ⟨by rcases a with rfl|rfl<;>simp,rfl⟩,λl=>by simp at l⟩,.inr ⟨rfl,a⟩⟩;rw[JW b h.rs];rcases a with rfl|rfl<;>simp[ST.signs,h.sign]
 ·have e:Z9 (t::r)=(0,t::r):=by
   unfold Z9;simp only[hd,List.headD_cons];split;·rename_i c b;rw[if_neg];intro j;exact a ⟨c,b,j⟩
   ·rfl
  rw[e];refine⟨S,rfl,rfl,rfl,⟨h.wf,h.os,h.len,h.rs,h.deep,.inl h.sign,λ_=>⟨k,?_,?_⟩⟩,.inl ⟨rfl,h.sign⟩⟩;·intro b;exact a ⟨38,b,.inl rfl⟩
  ·intro b;exact a ⟨33,b,.inr rfl⟩
theorem zgj{d:Nat}{c:List Tok}{p:zC}{b:List Tok}(t:MPc d (Z9 c).2 (.ok p b)):MTm d c (.ok (.mk (Z9 c).1 p (Zg b).1) (Zg b).2):=by intro S z o h r;obtain⟨e,l,m,n,a,q⟩:=zaX h r;obtain⟨s,A,B,j,g,i⟩:=t e z o a;obtain⟨f,k,u,v,w,x,y⟩:=zdY i s a.len a.rs a.deep q;exact⟨f,k,by rw[l,g,u],by rw[v,n],w,by rw[<-m];exact x,y⟩
theorem zgi{d:Nat}{a:List Tok}{e p:Nat}(i:MPc d (Z9 a).2 (.err e p)):MTm d a (.err e p):=by intro S j o h g;obtain⟨b,c,k,l,f,m⟩:=zaX h g;show run a S=_;rw[c];exact i b j o f
theorem zgh{d:Nat}{a:List Tok}(b:zX d a=false):MSq d a (.ok [] a):=by intro S c o h;refine⟨b,S,[],rfl,rfl,?_,List.prefix_refl _,by simp[Z7]⟩;simpa using h
theorem zge{d:Nat}{a:List Tok}{t:Term}{f:List Tok}{s:Seq}{g:List Tok}(w:zX d a=true)(z:MTm d a (.ok t f))(y:MSq d f (.ok s g)):MSq d a (.ok (t::s) g):=by intro S e o h;obtain⟨i,k,p,q,r,u,v⟩:=z S e o h w;obtain⟨x,j,c,l,m,g3,b,n⟩:=y i e _ r;refine⟨x,j,k::c,by rw[p,l],by rw[m,q],by simpa using g3,u.trans b,?_⟩;simp only[Z7];exact⟨k,c,rfl,Zw.mono b t v,n⟩
theorem zgf{d:Nat}{a:List Tok}{e p:Nat}(b:zX d a=true)(c:MTm d a (.err e p)):MSq d a (.err e p):=λS f o h=>c S f o h b
theorem zgg{d:Nat}{a:List Tok}{t:Term}{c:List Tok}{e p:Nat}(j:zX d a=true)(m:MTm d a (.ok t c))(l:MSq d c (.err e p)):MSq d a (.err e p):=by intro S b o h;obtain⟨f,k,g,n,i,q,r⟩:=m S b o h j;show run a S=_;rw[g];exact l f b _ i
theorem zg7{d:Nat}{c:List Tok}{s:Seq}{a:List Tok}(l:(hd a).kind≠.sign 47)(n:MSq d c (.ok s a)):MCh d c (.ok [s] a):=by intro S q o h m;obtain⟨k,e,p,f,g,b,i,j⟩:=n S q o h;refine⟨k,l,e,[],p,[],s,f,g,?_,i,rfl,by simp[zZ],j⟩;rw[m]at b;simpa using b
theorem zcM{d:Nat}{a:List Tok}{S:ST}{c:List OP}{o:OP}(h:QG d a S c o)(b:(hd a).kind=.sign 47):run a S=run a.tail {S.slash with may:=false}/\QG d a.tail {S.slash with may:=false} c ⟨o.seqs++[S.xs.length],[],o.sign⟩:=by obtain⟨t,r,rfl,k,i⟩:=h.wf.form;simp only[hd,List.headD_cons]at b;obtain⟨e,j,f,g⟩:=VT h.os;refine⟨?_,⟨i (by rw[b];rfl),e,h.len,by simp only[f];exact h.rs,h.deep,by simp only[g];exact h.sign,by simp⟩⟩;rw[JW b h.rs];simp[ST.signs,h.sign]
theorem zg9{d:Nat}{m:List Tok}{s:Seq}{g:List Tok}{c:Z5}{l:List Tok}(H:(hd g).kind=.sign 47)(L:MSq d m (.ok s g))(K:MCh d g.tail (.ok c l)):MCh d m (.ok (s::c) l):=by
 intro S N o h J;obtain⟨_,a,f,A,B,i,D,F⟩:=L S N o h;obtain⟨y,z⟩:=zcM i H;obtain⟨_,w,x,_⟩:=VT i.os;obtain⟨G,E,b,k,M,n,O,p,v,q,r,rfl,t,u⟩:=K _ _ _ z rfl;have e:a.xs++[⟨5,[],[],0,o.terms++f⟩]<+:b.xs:=by have:({a.slash with may:=false}:ST).xs=a.xs++[⟨5,[],[],0,o.terms++f⟩]:=w;rw[<-this];exact r
 rw[J,List.nil_append]at e;have j:a.xs<+:b.xs:=(List.prefix_append _ _).trans e;refine⟨G,E,b,a.xs.length::k,M,s::n,O,by rw[A,y,p],?_,?_,D.trans j,rfl,?_,u⟩;·rw[v];show a.slash.rs=_;rw[x,B]
 ·simpa using q
 ·simp only[zZ];exact⟨a.xs.length,k,f,rfl,YF e YA,Z7.mono j s F,t⟩
theorem zg6{d:Nat}{a:List Tok}{e p:Nat}(b:MSq d a (.err e p)):MCh d a (.err e p):=λS c o h _=>b S c o h
theorem zg8{d:Nat}{b:List Tok}{s:Seq}{a:List Tok}{e p:Nat}(j:(hd a).kind=.sign 47)(l:MSq d b (.ok s a))(k:MCh d a.tail (.err e p)):MCh d b (.err e p):=by intro S m o h u;obtain⟨_,n,v,g,q,i,r,t⟩:=l S m o h;obtain⟨c,f⟩:=zcM i j;show run b S=_;rw[g,c];exact k _ _ _ f rfl
theorem zbd{d:Nat}{a:List Tok}{r:Res Z5}(h:Z8 d a r):MCh d a r:=by
 refine Z8.rec (motive_1:=λd a r _=>MPc d a r) (motive_2:=λd a r _=>MTm d a r) (motive_3:=λd a r _=>MSq d a r) (motive_4:=λd a r _=>MCh d a r) ?_ ?_ ?_ ?_ ?_ ?_ ?_ ?_ ?_ ?_ ?_ ?_ ?_ ?_ ?_ ?_ h;·intro d a p o;exact zgd o
 ·intro d a n b;exact zg5 n b
 ·intro a b;exact zga b
 ·intro d a c j b hd _ l g;exact zgb b hd l g
 ·intro d a c j b hd _ l g;exact zgk b hd l g
 ·intro d a e p b hd _ g;exact zgc b hd g
 ·intro d a p j _ g;exact zgj g
 ·intro d a e p _ g;exact zgi g
 ·intro d a i;exact zgh i
 ·intro d a t j s q i _ _ k f;exact zge i k f
 ·intro d a e p i _ k;exact zgf i k
 ·intro d a t j e p i _ _ k f;exact zgg i k f
 ·intro d a s j _ b f;exact zg7 b f
 ·intro d a s j c q _ b _ f m;exact zg9 b f m
 ·intro d a e p _ f;exact zg6 f
 ·intro d a s j e p _ b _ f m;exact zg8 b f m
def zV(a:List RE):List (z7×Nat)->List ze->Prop
 |[],[]=>True
 |x::b,r::g=>x.1=r.name/\zw a x.2 (.group r.choice)/\zV a b g
 |_,_=>False
theorem zV.mono{b c:List RE}(h:b<+:c):∀(a:List (z7×Nat)) (g:List ze),zV b a g->zV c a g
 |[],[]=>id
 |x::a,r::g=>λ⟨d,e,f⟩=>⟨d,zw.mono h _ e,zV.mono h a g f⟩
 |[],_::_=>λh=>h.elim
 |_::_,[]=>λh=>h.elim
theorem zV.snoc{e:List RE}:∀(a:List (z7×Nat)) (g:List ze) {b:z7} {k:Nat} {r:ze},zV e a g->b=r.name->zw e k (.group r.choice)->zV e (a++[(b,k)]) (g++[r])
 |[],[],_,_,_=>λ_ c d=>⟨c,d,trivial⟩
 |x::a,l::g,_,_,_=>λ⟨f,c,d⟩ i j=>⟨f,c,zV.snoc a g d i j⟩
 |[],_::_,_,_,_=>λh=>h.elim
 |_::_,[],_,_,_=>λh=>h.elim
def S0:ST:=⟨[],[],[],[],false⟩
structure Btw(n:Nat)(ts:List Tok)(S:ST)(g0:List ze):Prop where
 at0:∃o,QG 0 ts S [] o/\∃rr nm c0 s gg,g0=gg++[⟨nm,c0++[s]⟩]/\S.rs=rr++[(nm,0)]/\rr.length+1=n/\zV S.xs rr gg/\zZ S.xs o.seqs c0/\Z7 S.xs o.terms s
 none:zX 0 ts=false
 slash:(hd ts).kind≠.sign 47
def Start(n:Nat)(b:List Tok)(S:ST)(a:List ze):Prop:=(n=0/\S=S0/\a=[]/\Wf b)\/Btw n b S a
theorem Start.wf{n:Nat}{a:List Tok}{S:ST}{b:List ze}(h:Start n a S b):Wf a:=by
 rcases h with⟨_,_,_,h⟩|h;·exact h
 ·obtain⟨o,c,_⟩:=h.at0;exact c.wf
theorem zap{n:Nat}{w:List Tok}{S:ST}{f:List ze}(h:Start n w S f):S.rule.os=[]/\S.rule.rs.length=n/\S.rule.sign=[]/\zV S.rule.xs S.rule.rs f/\S.sign=[]/\S.os.length<=1/\S.rs.length=n:=by
 rcases h with⟨rfl,rfl,rfl,_⟩|h;·simp[ST.rule,S0,zV]
 ·obtain⟨o,a,k,v,d,s,p,rfl,g,i,q,r,t⟩:=h.at0;have j:S.os=[]++[o]:=a.os;obtain⟨l,b,x,m⟩:=KG j;have u:S.rs≠[]:=a.rs;have e:S.rule={S.closed with rs:=k++[(v,S.xs.length+1)]}:=by unfold ST.rule;rw[if_neg u,g];simp[List.getLastD_concat]
  have c:S.xs<+:S.closed.xs:=by rw[b,List.append_assoc];exact List.prefix_append _ _
  rw[e];refine⟨l,by simp[i],by simp only[m];exact a.sign,?_,a.sign,by rw[j];simp,by rw[g];simp[i]⟩;refine zV.snoc k p (zV.mono c _ _ q) rfl ?_;simp only[zw];refine⟨o.seqs++[S.xs.length],by rw[b];simp,zZ.snoc d (zZ.mono c d r) (ks:=o.terms) (by rw[b];simp) (Z7.mono c s t)⟩
theorem zb2{n:Nat}{t m:Tok}{r:List Tok}{S:ST}{a:List ze}(h:Start n (t::m::r) S a)(d:t.kind=.name)(c:m.kind=.arrow)(s:n<20):run (t::m::r) S=run r (S.begin t.text)/\QG 0 r (S.begin t.text) [] ⟨[],[],[]⟩/\(S.begin t.text).rs=S.rule.rs++[(t.text,0)]/\zV (S.begin t.text).xs S.rule.rs a/\S.rule.rs.length=n:=by
 obtain⟨e,f,g,i,j,p,q⟩:=zap h;have k:=h.wf;have l:Wf (m::r):=by have:=k.2;rw[if_neg (by simp[d,TK.last])]at this;exact this
 have o:Wf r:=by have:=l.2;rw[if_neg (by simp[c,TK.last])]at this;exact this
 refine⟨?_,⟨o,by simp[ST.begin,e],rfl,by simp[ST.begin],by omega,by simpa[ST.begin]using g,by simp[ST.begin]⟩,rfl,i,f⟩;rw[UZ d (by rw[c];rfl),if_neg (by rintro(b|b);exact b j;omega),if_neg (by omega)]
theorem zir{n:Nat}{t m:Tok}{r:List Tok}{S:ST}{b:List ze}{c:Z5}{d:List Tok}(h:Start n (t::m::r) S b)(A:t.kind=.name)(x:m.kind=.arrow)(B:n<20)(z:Z8 0 r (.ok c d)):∃a,run (t::m::r) S=run d a/\Btw (n+1) d a (b++[⟨t.text,c⟩]):=by obtain⟨o,p,q,u,w⟩:=zb2 h A x B;obtain⟨y,v,a,E,D,e,s,f,l,g,i,rfl,j,k⟩:=zbd z _ _ _ p rfl;refine⟨a,by rw[o,f],⟨⟨_,g,S.rule.rs,t.text,e,s,b,rfl,by rw[l,q],by rw[w],zV.mono i _ _ u,?_,k⟩,y,v⟩⟩;simpa using j
theorem zis{n:Nat}{t m:Tok}{r:List Tok}{S:ST}{a:List ze}{e p:Nat}(h:Start n (t::m::r) S a)(g:t.kind=.name)(d:m.kind=.arrow)(i:n<20)(f:Z8 0 r (.err e p)):run (t::m::r) S=.error (e,p):=by obtain⟨b,c,_⟩:=zb2 h g d i;rw[b];exact zbd f _ _ _ c rfl
theorem zgM{n:Nat}{d:List Tok}{S:ST}{k:List ze}(h:Start n d S k)(i:(hd d).kind≠.name)(j:n≠0->(hd d).kind≠.fin):run d S=.error (2,(hd d).place):=by
 obtain⟨t,r,rfl,l,x⟩:=h.wf.form;simp only[hd,List.headD_cons]at i j|-;rcases h with⟨rfl,rfl,rfl,_⟩|h
 ·cases a:t.kind with
  |name=>exact absurd a i|bad=>rw[VQ a]|arrow=>rw[KV a]|fin=>rw[VR a];simp[S0]|sign c=>rw[run.eq_def];simp[a,S0]|lit=>rw[run.eq_def];simp[a,S0]|cls=>rw[run.eq_def];simp[a,S0]
 ·have b:=h.none;have g:=h.slash;obtain⟨o,f,z,y,q,s,u,_,v,w,_⟩:=h.at0;have e:=f.may;have p:S.os=[]++[o]:=f.os;have m:¬2<=S.os.length:=by rw[p];simp
  simp only[zX,hd,List.headD_cons]at b;simp only[hd,List.headD_cons,Kz]at g e;cases a:t.kind with
  |name=>exact absurd a i|bad=>rw[VQ a]|arrow=>rw[KV a]|fin=>exact absurd a (j (by omega))|lit=>simp[a]at b|cls=>simp[a]at b|sign c=>simp only[a]at b g e;rw[JW a f.rs];rcases VS (l c a)with rfl|rfl|rfl|rfl|rfl|rfl|rfl|rfl|rfl<;>simp[ST.signs,m]at b g e|- <;>simp[e]
theorem zgL{n:Nat}{a:List Tok}{S:ST}{e:List ze}(h:Start n a S e)(b:(hd a).kind=.name)(c:(hd a.tail).kind≠.arrow):run a S=.error (2,(hd a.tail).place):=by
 obtain⟨t,r,rfl,j,i⟩:=h.wf.form;simp only[hd,List.headD_cons]at b;obtain⟨m,k,rfl,_⟩:=(i (by rw[b];rfl)).form;simp only[hd,List.headD_cons,List.tail_cons]at c|-;have d:m.kind.isArrow=false:=by
  cases g:m.kind with
  |arrow=>exact absurd g c|_=>rfl
 rcases h with⟨rfl,rfl,rfl,_⟩|h;·rw[run.eq_def];simp[b,d,S0]
 ·have f:=h.none;simp[zX,hd,b,d]at f
theorem zgu{a:List Tok}{S:ST}{e:List ze}(h:Start 20 a S e)(b:(hd a).kind=.name)(d:(hd a.tail).kind=.arrow):run a S=.error (4,(hd a.tail).place):=by obtain⟨t,r,rfl,p,g⟩:=h.wf.form;simp only[hd,List.headD_cons]at b;obtain⟨m,q,rfl,_⟩:=(g (by rw[b];rfl)).form;simp only[hd,List.headD_cons,List.tail_cons]at d|-;obtain⟨i,j,k,l,f,n,o⟩:=zap h;rw[UZ b (by rw[d];rfl),if_neg (by rintro(c|c);exact c f;omega),if_pos (by omega)]
theorem UY{n:Nat}{c:List Tok}{r:Res ze}(q:ZV n c r){S:ST}{i:List ze}(h:Start n c S i)(v:n<=20)(k:n≠0->(hd c).kind≠.fin):match r with| .err e p=>run c S=.error (e,p)| .ok u j=>∃g,run c S=run j g/\Btw (n+1) j g (i++[u]):=by
 cases q with
 |noName a=>exact zgM h a k|many a b=>exact zgu h a b|noArrow a b=>exact zgL h a b|ok a b l d=>obtain⟨t,r,rfl,o,f⟩:=h.wf.form;simp only[hd,List.headD_cons]at a;obtain⟨m,s,rfl,_⟩:=(f (by rw[a];rfl)).form;exact zir h a b (by omega) d
 |err a b l d=>obtain⟨t,r,rfl,o,f⟩:=h.wf.form;simp only[hd,List.headD_cons]at a;obtain⟨m,s,rfl,_⟩:=(f (by rw[a];rfl)).form;exact zis h a b (by omega) d
theorem zbE{n:Nat}{m:List Tok}{u:Except (Nat×Nat) (List ze)}(E:ZU n m u):∀(S:ST) (f:List ze),Start n m S f->n<=20->(n≠0->(hd m).kind≠.fin)->match u with| .error x=>run m S=.error x| .ok g=>∃a,run m S=.ok a/\zV a.xs a.rs (f++g):=by
 induction E with
 |last b k=>
  intro S f h e d;obtain⟨a,j,i⟩:=UY b h e d;obtain⟨F,G,H,w,y,J,K⟩:=zap (.inr i);refine⟨a.rule,?_,w⟩;obtain⟨o,s,_⟩:=i.at0;obtain⟨t,r,rfl,_⟩:=s.wf.form;have B:t.kind=.fin:=k;rw[j,VR B,if_neg];rintro(c|c|c);·exact s.rs c
  ·exact c y
  ·omega
 |more b k _ q=>
  intro S f h e d;rename_i l _ _ _ _ _;obtain⟨a,j,i⟩:=UY b h e d;have p:l+1<=20:=by
   have D:l≠20:=by
    cases b with
    |ok _ _ c _=>exact c
   omega
  obtain⟨v,z,A⟩:=q a _ (.inr i) p (λ_=>k);exact⟨v,by rw[j,z],by simpa using A⟩
 |err b=>intro S f h e d;exact UY b h e d
 |later b k _ q=>
  intro S f h e d;rename_i l _ _ _ _ _;obtain⟨a,j,i⟩:=UY b h e d;have p:l+1<=20:=by
   have D:l≠20:=by
    cases b with
    |ok _ _ c _=>exact c
   omega
  show run _ S=_;rw[j];exact q a _ (.inr i) p (λ_=>k)
structure Bd(c:Nat)(S:ST):Prop where
 xs:S.xs.length<=4 *c
 os:S.os.length<=7
 each:∀o∈S.os,o.terms.length<=c/\o.seqs.length<=c
 rs:S.rs.length<=20
theorem Bd.zero:Bd 0 S0:=⟨by simp[S0],by simp[S0],by simp[S0],by simp[S0]⟩
theorem Bd.mono{c a:Nat}{S:ST}(h:Bd c S)(d:c<=a):Bd a S:=⟨by have:=h.xs;omega,h.os,λo b=>by have:=h.each o b;omega,h.rs⟩
theorem JX{S:ST}(h:S.os≠[]):∃a o,S.os=a++[o]/\S.top=o:=by
 refine⟨S.os.dropLast,S.os.getLast h,(List.dropLast_concat_getLast h).symm,?_⟩;unfold ST.top;conv=>lhs;rw[<-List.dropLast_concat_getLast h]
 rw[List.getLastD_concat]
theorem Bd.top{c:Nat}{S:ST}(h:Bd c S)(d:S.os≠[]):S.top.terms.length<=c/\S.top.seqs.length<=c:=by obtain⟨e,o,a,b⟩:=JX d;rw[b];exact h.each o (by rw[a];simp)
theorem Bd.term{c n:Nat}{T:ST}{j:Nat}{h:z7}(k:T.xs.length+1<=4 *n)(e:T.os.length<=7)(f:T.os≠[])(d:∀o∈T.os,o.terms.length<=c/\o.seqs.length<=c)(g:T.rs.length<=20)(i:c+1<=n):Bd n (T.term j h):=by
 obtain⟨l,o,b,_⟩:=JX f;refine⟨?_,?_,?_,by rw[VW];exact g⟩
 ·rw[VX];split;·omega
  ·simp;omega
 ·rw[Kk _ _ _ b];rw[b]at e;simpa using e
 ·rw[Kk _ _ _ b];intro x a;rcases List.mem_append.1 a with a|a;·have:=d x (by rw[b];simp[a]);omega
  ·simp only[List.mem_singleton]at a;subst a;have:=d o (by rw[b];simp);simp;omega
theorem Bd.lay{a:Nat}{S:ST}(h:Bd a S)(b:S.os≠[])(e:RE):Bd (a+1) (S.lay e):=by have d:=h.xs;exact Bd.term (c:=a) (by simp[ST.add];omega) h.os b h.each h.rs (Nat.le_refl _)
theorem Bd.slash{c:Nat}{S:ST}(h:Bd c S)(i:S.os≠[]):Bd (c+1) {S.slash with may:=false}:=by
 obtain⟨l,o,b,_⟩:=JX i;obtain⟨d,f,g,j⟩:=VT b;have k:=h.xs;have e:=h.os;refine⟨by simp only[f];simp;omega,by simp only[d];rw[b]at e;simpa using e,?_,by simp only[g];exact h.rs⟩;simp only[d];intro x a;rcases List.mem_append.1 a with a|a;·have:=h.each x (by rw[b];simp[a]);omega
 ·simp only[List.mem_singleton]at a;subst a;have:=h.each o (by rw[b];simp);simp;omega
theorem Bd.behind{c:Nat}{S:ST}(h:Bd c S)(g:S.os≠[])(b:z7):Bd (c+1) (S.behind b):=by
 obtain⟨j,o,d,f⟩:=JX g;have i:=h.xs;have e:=h.os;unfold ST.behind;simp only[];split;·exact⟨by simp;omega,e,λx a=>by have:=h.each x a;omega,h.rs⟩
 ·refine⟨by simp[ST.setTop,ST.add];omega,?_,?_,by simp[ST.setTop,ST.add];exact h.rs⟩;·simp[ST.setTop,ST.add,d]at e|-;exact e
  ·simp only[ST.setTop,ST.add,d,List.dropLast_concat];intro x a;rcases List.mem_append.1 a with a|a;·have:=h.each x (by rw[d];simp[a]);omega
   ·simp only[List.mem_singleton]at a;subst a;have:=h.each o (by rw[d];simp);rw[f];simp;omega
theorem Bd.opened{c:Nat}{S:ST}(h:Bd c S)(hd:S.os.length<=6)(b:z7):Bd (c+1) {S with os:=S.os++[⟨[],[],b⟩],sign:=[],may:=false}:=by
 have d:=h.xs;refine⟨by simp only[];omega,by simp;omega,?_,h.rs⟩;intro x a;rcases List.mem_append.1 a with a|a;·have:=h.each x a;omega
 ·simp only[List.mem_singleton]at a;subst a;simp
theorem Bd.closed{b:Nat}{S:ST}(h:Bd b S)(a:2<=S.os.length)(j:Nat)(n:z7):Bd (b+1) (S.closed.term j n):=by
 have l:S.os≠[]:=by intro e;rw[e]at a;simp at a
 obtain⟨r,o,f,_⟩:=JX l;obtain⟨d,i,k,p⟩:=KG f;have q:=h.xs;have g:=h.os;rw[f]at a g;simp at a g;refine Bd.term (c:=b) (by rw[i];simp;omega) (by rw[d];omega) (by rw[d];intro e;rw[e]at a;simp at a) ?_ (by rw[k];exact h.rs) (Nat.le_refl _);rw[d];intro x m;exact h.each x (by rw[f];simp[m])
theorem Bd.begin{c:Nat}{S:ST}(h:Bd c S)(f:S.os.length<=1)(t:S.rs.length<20)(b:z7)(p:S.rs≠[]->S.os≠[]):Bd (c+2) (S.begin b):=by
 have u:=h.xs;by_cases d:S.rs=[]
 ·have e:S.rule=S:=by unfold ST.rule;rw[if_pos d]
  unfold ST.begin;rw[e];refine⟨by simp only[];omega,by simp;omega,?_,by simp;omega⟩;intro x a;rcases List.mem_append.1 a with a|a;·have:=h.each x a;omega
  ·simp only[List.mem_singleton]at a;subst a;simp
 ·obtain⟨q,o,j,_⟩:=JX (p d);obtain⟨i,n,r,s⟩:=KG j;have l:S.rule.xs=S.closed.xs:=by unfold ST.rule;rw[if_neg d]
  have g:S.rule.os=S.closed.os:=by unfold ST.rule;rw[if_neg d]
  have m:S.rule.rs.length=S.rs.length:=by unfold ST.rule;rw[if_neg d];simp;have:0<S.rs.length:=List.length_pos_iff.2 d;omega
  have k:q=[]:=by rw[j]at f;simp at f;exact f
  unfold ST.begin;refine⟨by simp only[l,n];simp;omega,by simp only[g,i,k];simp,?_,by simp only[List.length_append,m];simp;omega⟩;simp only[g,i,k];intro x a;simp at a;subst a;simp
def YX(b:z7):Prop:=b=[]\/b=[38]\/b=[33]
structure Q5(S:ST):Prop where
 sg:YX S.sign
 osg:∀o∈S.os,YX o.sign
 may:S.may=true->∃tl k x,S.top.terms=tl++[k]/\S.xs[k]?=some x/\((x.kind=10\/x.kind=11)->x.parts≠[])
 ne:S.rs≠[]->S.os≠[]
theorem Q5.zero:Q5 S0:=⟨.inl rfl,by simp[S0],by simp[S0],by simp[S0]⟩
theorem Q5.term{T:ST}{j:Nat}{b:z7}{x:RE}(h:T.os≠[])(i:YX T.sign)(e:∀o∈T.os,YX o.sign)(l:T.xs[j]?=S x)(g:(x.kind=10\/x.kind=11)->x.parts≠[]):Q5 (T.term j b):=by
 obtain⟨m,o,c,_⟩:=JX h;have d:=Kk T j b c;have k:(T.term j b).top={o with terms:=o.terms++[if b=[]then j else T.xs.length]}:=by unfold ST.top;rw[d,List.getLastD_concat]
 refine⟨by rw[zaz];exact i,?_,?_,by rw[d];simp⟩
 ·rw[d];intro y a;rcases List.mem_append.1 a with a|a;·exact e y (by rw[c];simp[a])
  ·simp only[List.mem_singleton]at a;subst a;exact e o (by rw[c];simp)
 ·intro _;rw[k,VX];by_cases f:b=[];·simp only[f,if_true];exact⟨o.terms,j,x,rfl,l,g⟩
  ·simp only[f,if_false];exact⟨o.terms,T.xs.length,zy (zE b) j,rfl,YA,by simp[zy]⟩
theorem Q5.lay{S:ST}(h:Q5 S)(c:S.os≠[]){e:RE}(b:e.kind≠10/\e.kind≠11):Q5 (S.lay e):=Q5.term (x:=e) c (.inl rfl) h.osg (by simp[ST.add]) (by rintro(a|a);exact absurd a b.1;exact absurd a b.2)
theorem qT(t:Tok):(Zb t).kind≠10/\(Zb t).kind≠11:=by unfold Zb;split<;>simp
theorem Q5.begin{S:ST}(h:Q5 S)(b:z7)(l:S.sign=[]):Q5 (S.begin b):=by
 have f:YX S.rule.sign/\∀o∈S.rule.os,YX o.sign:=by
  by_cases c:S.rs=[]
  ·have e:S.rule=S:=by unfold ST.rule;rw[if_pos c]
   rw[e];exact⟨h.sg,h.osg⟩
  ·obtain⟨m,o,d,_⟩:=JX (h.ne c);obtain⟨g,j,k,i⟩:=KG d;have e:S.rule.sign=S.closed.sign/\S.rule.os=S.closed.os:=by unfold ST.rule;rw[if_neg c];exact⟨rfl,rfl⟩
   rw[e.1,e.2,g,i];exact⟨h.sg,λy a=>h.osg y (by rw[d];simp[a])⟩
 refine⟨f.1,?_,by simp[ST.begin],by simp[ST.begin]⟩;intro y a;rcases List.mem_append.1 a with a|a;·exact f.2 y a
 ·simp only[List.mem_singleton]at a;subst a;exact .inl rfl
theorem qH{S:ST}(h:Q5 S)(d:S.os≠[])(b:z7):Q5 (S.behind b)/\(S.behind b).os≠[]/\(S.behind b).rs=S.rs:=by
 obtain⟨f,o,c,e⟩:=JX d;unfold ST.behind;simp only[];split;·exact⟨⟨h.sg,h.osg,by simp,λ_=>d⟩,d,rfl⟩
 ·refine⟨⟨h.sg,?_,by simp,by simp[ST.setTop]⟩,by simp[ST.setTop],by simp[ST.setTop,ST.add]⟩;simp only[ST.setTop,ST.add,c,List.dropLast_concat];intro y a;rcases List.mem_append.1 a with a|a;·exact h.osg y (by rw[c];simp[a])
  ·simp only[List.mem_singleton]at a;subst a;rw[e];exact h.osg o (by rw[c];simp)
theorem ziL{S g:ST}{c:UInt8}{n:Nat}(h:Q5 S)(b:Bd n S)(f:S.os≠[])(E:S.rs≠[])(B:Qf c=true)(a:S.signs c=.ok g):Q5 g/\Bd (n+1) g/\g.os≠[]/\g.rs=S.rs:=by
 obtain⟨z,t,l,D⟩:=JX f;rcases VS B with rfl|rfl|rfl|rfl|rfl|rfl|rfl|rfl|rfl
 ·simp only[ST.signs]at a;by_cases i:S.sign=[]
  ·simp[i]at a;subst a;obtain⟨k,v,q,r⟩:=VT l;refine⟨⟨by simp only[r];exact h.sg,?_,by simp,by simp only[k];simp⟩,b.slash f,by simp only[k];simp,by simp only[q]⟩;simp only[k];intro y d;rcases List.mem_append.1 d with d|d;·exact h.osg y (by rw[l];simp[d])
   ·simp only[List.mem_singleton]at d;subst d;exact h.osg t (by rw[l];simp)
  ·simp[i]at a
 ·simp only[ST.signs]at a;by_cases i:S.sign=[];·simp[i]at a;subst a;exact⟨⟨.inr (.inl rfl),h.osg,by simp,λ_=>f⟩,⟨by have:=b.xs;simp only[];omega,b.os,λu s=>by have:=b.each u s;omega,b.rs⟩,f,rfl⟩
  ·simp[i]at a
 ·simp only[ST.signs]at a;by_cases i:S.sign=[];·simp[i]at a;subst a;exact⟨⟨.inr (.inr rfl),h.osg,by simp,λ_=>f⟩,⟨by have:=b.xs;simp only[];omega,b.os,λu s=>by have:=b.each u s;omega,b.rs⟩,f,rfl⟩
  ·simp[i]at a
 ·by_cases j:S.may=true
  ·have e:g=S.behind [63]:=by simp[ST.signs,j]at a;exact a.symm
   subst e;obtain⟨m,p,g3⟩:=qH h f [63];exact⟨m,b.behind f [63],p,g3⟩
  ·simp[ST.signs,j]at a
 ·by_cases j:S.may=true
  ·have e:g=S.behind [42]:=by simp[ST.signs,j]at a;exact a.symm
   subst e;obtain⟨m,p,g3⟩:=qH h f [42];exact⟨m,b.behind f [42],p,g3⟩
  ·simp[ST.signs,j]at a
 ·by_cases j:S.may=true
  ·have e:g=S.behind [43]:=by simp[ST.signs,j]at a;exact a.symm
   subst e;obtain⟨m,p,g3⟩:=qH h f [43];exact⟨m,b.behind f [43],p,g3⟩
  ·simp[ST.signs,j]at a
 ·by_cases hd:6<S.os.length;·simp[ST.signs,hd]at a
  ·have e:g={S with os:=S.os++[⟨[],[],S.sign⟩],sign:=[],may:=false}:=by simp[ST.signs,hd]at a;exact a.symm
   subst e;refine⟨⟨.inl rfl,?_,by simp,by simp⟩,b.opened (by omega) _,by simp,rfl⟩;intro y d;rcases List.mem_append.1 d with d|d;·exact h.osg y d
   ·simp only[List.mem_singleton]at d;subst d;exact h.sg
 ·by_cases hd:S.sign=[]/\2<=S.os.length
  ·have e:g=S.closed.term (S.xs.length+1) S.top.sign:=by simp[ST.signs,hd]at a;exact a.symm
   subst e;obtain⟨k,v,q,r⟩:=KG l;have w:z≠[]:=by intro e;have:=hd.2;rw[l,e]at this;simp at this
   refine⟨Q5.term (x:=⟨6,[],[],0,t.seqs++[S.xs.length]⟩) (by rw[k];exact w) (by rw[r];exact h.sg) (by rw[k];exactλy d=>h.osg y (by rw[l];simp[d])) (by rw[v];simp) (by simp),b.closed hd.2 _ _,?_,by rw[VW,q]⟩;obtain⟨G,F,A,_⟩:=JX (S:=S.closed) (by rw[k];exact w);rw[Kk _ _ _ A];simp
  ·simp[ST.signs,hd]at a
 ·have e:g=S.lay ⟨3,[],[],0,[]⟩:=by simp[ST.signs]at a;exact a.symm
  subst e;refine⟨h.lay f (by simp),b.lay f _,?_,?_⟩;·unfold ST.lay;rw[Kk (({S with sign:=[]}:ST).add ⟨3,[],[],0,[]⟩) _ _ (pre:=z) (o:=t) l];simp
  ·unfold ST.lay;rw[VW];rfl
theorem zcK {S:ST} {c:UInt8} {er:Nat} (h:S.signs c = .error er):er=2∨er=3:=by
 unfold ST.signs at h
 repeat' split at h
 all_goals first | (cases h;simp;done) | cases h
section
open Go.RowKit
attribute [local go_sem ↓] Go.wp_at_zero Go.wp_at_succ
def U8(w:World)(B f:Nat)(S:ST)(c:UInt8)(a:Ending)(b:World):Prop:=match S.signs c with| .error e=>Va w B e a b| .ok d=>QS w B f d (I J 0) a b
theorem UP{b:z7}(h:YX b)(a:b≠[]):okA b:=by
 rcases h with h|h|h;·exact absurd h a
 ·exact .inl h
 ·exact .inr h
theorem VJ{b:z7}(h:YX b):b=[]\/okA b:=by
 rcases h with h|h|h;·exact .inl h
 ·exact .inr (.inl h)
 ·exact .inr (.inr h)
theorem zia(w:World)(B b:Nat)(M:MV)(d:Nat->Nat)(h:Mem w B b M d (· =0))(v:Q5 M.st)(n:Nat)(p:Bd n M.st)(Y:n<=2100)(G:M.os≠[])(c:UInt8)(O:Qf c=true):Calls P 100 #[.pointer (S ⟨b,0,N⟩),.string ⟨#[c]⟩] w λK V=>U8 w B b M.st c K V:=by
 obtain⟨i,m,g⟩:∃i m,M.os=i++[m]:=⟨M.os.dropLast,M.os.getLast G,(List.dropLast_concat_getLast G).symm⟩;have a0:M.xs.length<=8400:=by have:=p.xs;simp[MV.st]at this;omega
 have y:M.os.length<=7:=by have:=p.os;simpa[MV.st]using this
 have E:i.length<=6:=by rw[g]at y;simp at y;exact y
 have R:m.1.terms.length<=2100/\m.1.seqs.length<=2100:=by have:=p.each m.1 (by simp[MV.st,g]);omega
 have H:M.st.top=m.1:=by simp[MV.st,ST.top,g,List.getLastD_concat]
 have f:M.st.sign=M.sign:=rfl;have D:M.st.may=M.may:=rfl;have q:M.st.os.length=M.os.length:=by simp[MV.st]
 have z:M.st.xs.length=M.xs.length:=by simp[MV.st]
 have j:=v.sg;rw[f]at j;unfold U8;rcases VS O with rfl|rfl|rfl|rfl|rfl|rfl|rfl|rfl|rfl
 ·by_cases a:M.sign=[];·simp only[ST.signs,f,a,if_true];exact zii w B b M d h a i m g (by omega) (by omega) (by omega)
  ·simp only[ST.signs,f,a,if_true,if_false];exact UW w B b M d h (UP j a) 47 (.inl rfl)
 ·by_cases a:M.sign=[];·simp[ST.signs,f,a];exact zcr w B b M d h a 38 (.inl rfl)
  ·simp[ST.signs,f,a];exact UW w B b M d h (UP j a) 38 (.inr (.inl rfl))
 ·by_cases a:M.sign=[];·simp[ST.signs,f,a];exact zcr w B b M d h a 33 (.inr rfl)
  ·simp[ST.signs,f,a];exact UW w B b M d h (UP j a) 33 (.inr (.inr (.inl rfl)))
 iterate 3
  by_cases l:M.may=true
  ·simp[ST.signs,D,l];obtain⟨J,k,x,s,t,L⟩:=v.may l;rw[H]at s;have A:k<M.xs.length:=by rw[<-z];exact(List.getElem?_eq_some_iff.1 t).1
   have U:M.xs[k].1=x:=by
    have:M.st.xs[k]?=S M.xs[k].1:=by simp[MV.st,A]
    rw[this]at t;exact Option.some.inj t
   have Z:J.length<=2100:=by have:=R.1;rw[s]at this;simp at this;omega
   exact zib w B b M d h l _ (by simp) i m g J k s A (by rw[U];exact L) (by omega) (by omega) (by omega)
  ·simp[ST.signs,D,l];exact zif w B b M d h (by simpa using l) _ (by simp)
 ·by_cases hd:6<M.os.length;·simp[ST.signs,q,hd];exact zid w B b M d h hd
  ·simp[ST.signs,q,hd];exact zih w B b M d h (by omega)
 ·by_cases a:M.sign=[]
  ·by_cases hd:2<=M.os.length
   ·simp[ST.signs,f,q,a,hd,H,z];have F:i≠[]:=by intro e;rw[g,e]at hd;simp at hd
    obtain⟨r,o,u⟩:∃r o,i=r++[o]:=⟨i.dropLast,i.getLast F,(List.dropLast_concat_getLast F).symm⟩;have X:o.1.terms.length<=2100:=by have:=p.each o.1 (by simp[MV.st,g,u]);omega
    have W:r.length<=6:=by rw[u]at E;simp at E;omega
    exact zic w B b M d h a r o m (by rw[g,u]) (VJ (v.osg m.1 (by simp[MV.st,g]))) (by omega) (by omega) (by omega) (by omega)
   ·simp[ST.signs,f,q,a,hd];exact zig w B b M d h a (by omega)
  ·simp[ST.signs,f,a];exact UW w B b M d h (UP j a) 41 (.inr (.inr (.inr rfl)))
 ·have e:M.st.signs 46=.ok (M.st.lay ⟨3,[],[],0,[]⟩):=by simp[ST.signs]
  rw[e];have:=zie w B b M d h i m g (VJ j) (by omega) (by omega) (by omega);simpa[ST.lay,f,z]using this
abbrev ZP:Value:=.agg #[.slice N 0 0,.slice N 0 0]
abbrev JZ:Obj:=.cells #[.slice N 0 0,.slice N 0 0] 85
theorem VN(w:World)(m:Nat)(k p e j b h:Nat)(s o:ByteArray)(a f:Option Addr)(n c l g:Nat):Calls P 99 #[.pointer (S ⟨m,0,N⟩),.agg #[I J k,I J p,I J e,.string s,.slice a n c],.agg #[I J j,I J b,I J h,.string o,.slice f l g]] w λi q=>i=.returned (.tuple #[ZP,I J 2,I J (if k=1 then(b:Int)else p)])/\Below w.heap.size w q:=by
 by_cases d:k=1
 ·subst d;go_enter func99,ntmps99;go_wp2_with fail;go_region;all_goals go_wp2_with fail
  all_goals refine bodyPost_ret (v:=.tuple #[ZP,I J 2,I J b]) (by simp[results,results99,go_sem];done) rfl ⟨by simp,?_⟩
  all_goals exact((((zc w _).alloc (by simp) _).alloc (by simp;omega) _)).drew
 ·have r:¬(k:Int)=1:=by omega
  go_enter func99,ntmps99;go_wp2_with fail;go_region;all_goals go_wp2_with fail
  all_goals refine bodyPost_ret (v:=.tuple #[ZP,I J 2,I J p]) (by simp[results,results99,go_sem];done) rfl ⟨by simp[d],?_⟩
  all_goals exact((((zc w _).alloc (by simp) _).alloc (by simp;omega) _)).drew
end
end Go.Proofs.YtiganlkabilblaaGreatDoor
