import Derived.Test.YtiganlkabilblaaGreatDoorV45
import Derived.Test.YtiganlkabilblaaGreatDoorV44
import Derived.Test.YtiganlkabilblaaGreatDoorV40
import Derived.Test.YtiganlkabilblaaGreatDoorV41
import Derived.Test.YtiganlkabilblaaGreatDoorV33
import Derived.Test.YtiganlkabilblaaGreatDoorV37
import Derived.Lib.AppendStr
set_option linter.all false
set_option maxHeartbeats 64000000
set_option maxRecDepth 100000
namespace Go.Proofs.YtiganlkabilblaaGreatDoor
open Tryz
open Tryz renaming prog->P
open Option renaming some->S,none->N
open Value renaming int->I
open IntKind renaming i64->J
section
open Go.RowKit
attribute [local go_sem ↓] Go.wp_at_zero Go.wp_at_succ
theorem Zo.err0{l:List UInt8}{a p:Nat}(h:Zo l (.error (a,p))):a≠0:=by
 cases h with
 |text h=>exact zce h|rules _ h=>cases h<;>simp
theorem ztO(n:Nat)(g:n<=20)(w:World):∃a:Array Value,a.size=n *2/\(Instr.makeSlice 92 (I J 0) (I J n)).run prog w=.ok (.slice (S ⟨w.heap.size,0,N⟩) 0 n) (w.alloc (.cells a 151)):=by
 obtain⟨b,c,d,e,f⟩:=info_parts infoARule;refine⟨madeCells (Value.agg #[.string ⟨#[]⟩,.bool false]).cells (((n:Nat):Int).toNat *b.size),?_,?_⟩;·rw[size_madeCells,e];simp
 ·have h:=run_make (P:=prog) w 92 151 b _ underlying92 c d J J 0 (n:Int) (by omega) (by omega) (by rw[f];omega) (by omega);simpa using h
theorem zsR{c d:World}{O:Obj}{b:Option Nat}{a:Addr}{u:Value}(e:(c.alloc O).grownBy d b)(h:c.cell? a=S u)(f:S a.block≠b):d.cell? a=S u:=e.cell (by rw[World.cell?_alloc_lt _ _ _ (World.block_lt_of_cell? _ _ h)];exact h) f
theorem zub{W wr r h:World}{a s:Obj}{L:List (z7×Bool)}{i:Nat}{p:Option Addr}{q:Nat}{o:z7}{b:Bool}{l j:Nat}(d:Below W.heap.size W wr)(w:wr.ownsRow W.heap.size 151 2 (.slice p i q) i ((L.take i).flatMap zrM))(u:i<L.length)(t:L[i]=(o,b))(c:Below ((wr.alloc a).drew).heap.size ((wr.alloc a).drew) r)(x:h.ownsRow W.heap.size 151 2 (.slice (S ⟨l,0,N⟩) (i+1) j) (i+1) ((L.take i).flatMap zrM++[.string ⟨o.toArray⟩,.bool b]))(f:(r.alloc s).grownBy h (Value.slice p i q).ownBlock):Below W.heap.size W h/\Told h W.heap.size (.slice (S ⟨l,0,N⟩) (i+1) j) (L.take (i+1)):=by
 have A:=d.size;have m:((wr.alloc a).drew).heap.size=wr.heap.size+1:=by show(wr.alloc a).heap.size=_;simp
 have z:=c.size;rw[m]at z;have y:=f.size;simp at y;refine⟨⟨f.os.trans (c.os.trans d.os),f.tape.trans (c.tape.trans d.tape),f.output.trans (c.output.trans d.output),by omega,λk v=> ?_⟩,?_⟩;·rw[f.block k (by simp;omega) (λe=>by have:=(w.lt k e.symm).1;omega),zm _ _ (by omega),c.block k (by rw[m];omega)];show(wr.alloc a).heap[k]?=_;rw[zm _ _ (by omega)];exact d.block k v
 ·have n:(L.take i).length=i:=by rw[List.length_take];omega
  have:=ztn (w1:=h) (B:=W.heap.size) u (g:=l) (cap:=j) (by rw[n,t];exact x);rw[n]at this;exact this
theorem zu8(s:ByteArray)(w:World)(hs:s.size<=maxLen)(hg:QD w):Calls P 42 #[.string s] w λe A=>Below w.heap.size w A/\∃K,Zo s.data.toList K/\match K with| .ok (g,E)=>∃v,e=.returned (.tuple #[v,I J 0])/\Told A w.heap.size v (zr0 (zg g) E)| .error (q,_)=>q≠0/\e=.returned (.tuple #[.slice N 0 0,I J q]):=by
 have ap:=zhC s w hs;have HG:Hid (QD w):=hg;clear hg;go_enter func42,ntmps42;go_wp2_with fail;refine ap.mono ?_;rintro e d⟨K,hP,n,hE⟩;have U:Hid (Below w.heap.size w d):=n;have a1:=n.size;have W:Hid (Zo s.data.toList K):=hP;clear ap hP n;cases K with
 |error x=>
  obtain⟨q,ar⟩:=x;have z:=λO=>zjf q ar (d.alloc O) (HG.out.below (U.out.alloc a1 O));have h0:=W.out.err0;have t:¬(q:Int)=0:=by omega
  simp only[zS]at hE z;subst hE;go_wp2_with fail;refine(z _).mono ?_;rintro e c⟨rfl,k⟩;have V:Hid (Below w.heap.size w c):=(U.out.alloc a1 _).trans (k.mono (by simp;omega));clear z k;go_wp2_with fail;go_ret2;exact⟨V.out,.error (q,ar),W.out,h0,rfl⟩
 |ok y=>
  obtain⟨g,E⟩:=y;obtain⟨al,aO,aY,cp,mb,f,rfl,ae,D⟩:=hE;have z:=λO=>zjg (d.alloc O);obtain⟨i0,aP,aT,aU,aV⟩:=info_parts infoARule;have b4:0<g.length:=List.length_pos_iff.2 al;have b7:=D.map.lt;have aM:=zd D.emp;have aI:E.length=g.length:=by rw[D.len];simp[zg]
  have az:=z6 ae;have ay:=z6 D;clear al ae D;simp only[zI];go_wp2_with fail;refine(z _).mono ?_;rintro e c⟨rfl,k⟩;have aL:=k;have aW:=k.size;simp at aW;have aj:c.heap[d.heap.size]?=S (ZB mb f g.length):=by rw[k.block _ (by simp)];exact zk _ _
  have a3:Hid (Below d.heap.size d c):=(zc _ _).trans (k.mono (by simp));have V:Hid (Below w.heap.size w c):=U.out.trans (a3.out.mono a1);obtain⟨ad,ai,b6⟩:=ztO g.length aO c;have ax:=z6 aj;have aB:Hid (Told (c.alloc (.cells ad 151)) c.heap.size (.slice (S ⟨c.heap.size,0,N⟩) 0 g.length) ((zr0 (zg g) E).take 0)):=World.ownsRow_made c ad g.length (Nat.le_refl _) (by unfold maxLen;omega) ai;clear z k aL aj ai;go_wp2_with fail;go_loopg[9,31] g.length (λm vo vi wr=>∃i:Nat,m=g.length-i/\vi=I J i/\i<=g.length/\Hid (Below c.heap.size c wr/\Told wr c.heap.size vo ((zr0 (zg g) E).take i)));case atStart=>exact⟨0,by omega,rfl,by omega,zc _ _,aB.out⟩
  case round=>
   obtain⟨i,rfl,rfl,hi,j⟩:=hrel;have b8:=j.out.1.size;have a4:Hid (Below d.heap.size d wr):=a3.out.trans (j.out.1.mono (by omega));have L:wr.heap[d.heap.size]?=S (ZB mb f g.length):=by rw[j.out.1.block _ (by omega)];exact ax.out
   have qf:=z8 L 1;have b3:=za L;have aX:=z6 L;clear L;by_cases M:i<g.length
   ·have aQ:(i:Int)<g.length:=by omega
    have am:i<(zr0 (zg g) E).length:=by
     have t:(zg g).length=g.length:=by simp[zg]
     simp[zr0,t,aI];exact M
    obtain⟨h,R⟩:∃h,h=g[i].name:=⟨_,rfl⟩;obtain⟨b,n⟩:∃b,b=E.getD i false:=⟨_,rfl⟩;have af:(zr0 (zg g) E)[i]=(h,b):=by
     have t:(zg g)[i]?=S h:=by simp[zg,M,R]
     have h2:E[i]?=S b:=by rw[n,List.getD_eq_getElem?_getD,List.getElem?_eq_getElem (by omega)];rfl
     have h3:(zr0 (zg g) E)[i]?=S (h,b):=by unfold zr0;rw[List.getElem?_zip_eq_some];exact⟨t,h2⟩
     rw[List.getElem?_eq_getElem am]at h3;exact Option.some.inj h3
    obtain⟨r,Y,Z,rfl,aN,_,c0,c1,_,aS⟩:=az.out.at i M;have a0:wr.heap[r]?=d.heap[r]?:=a4.out.block _ aN;have ag:wr.heap[f]?=d.heap[f]?:=a4.out.block _ aM;have aZ:wr.cell? ⟨r,i *2,N⟩=S (.string ⟨h.toArray⟩):=by rw[World.cell?_of_block (a:=⟨r,_,N⟩) a0,R];exact c0
    have b0:wr.cell? ⟨r,i *2+1,N⟩=S (.slice Y g[i].choice.length Z):=by rw[World.cell?_of_block (a:=⟨r,_,N⟩) a0];exact c1
    have e0:wr.cell? ⟨f,i,N⟩=S (.bool b):=by rw[World.cell?_of_block (a:=⟨f,_,N⟩) ag,n];exact ay.out.cell i (by simp[zg];exact M)
    obtain⟨G,H,aq⟩:=zl j.out.2;have a2:(List.take i (zr0 (zg g) E)).length=i:=by rw[List.length_take];omega
    rw[a2]at aq;subst aq;have B:Hid (wr.ownsRow c.heap.size 151 2 (.slice G i H) i ((List.take i (zr0 (zg g) E)).flatMap zrM)):=by have:=j.out.2;unfold Told at this;rw[a2]at this;exact this
    have aA:=z6 af;have aG:Hid ((ByteArray.mk h.toArray).size<=100000):=by show h.toArray.size<=_;rw[R];simp;omega
    have ah:=ztG ⟨h.toArray⟩ ((wr.alloc (.cells #[.string ⟨h.toArray⟩,.slice Y g[i].choice.length Z] 142)).drew) aG.out;have aw:=z6 ah;have aD:Hid (S wr.heap.size≠(Value.slice G i H).ownBlock):=λe=>Nat.lt_irrefl _ (B.out.lt _ e.symm).2;have aE:Hid (S d.heap.size≠(Value.slice G i H).ownBlock):=λe=>by have:=(B.out.lt _ e.symm).1;omega
    have aF:Hid (S f≠(Value.slice G i H).ownBlock):=λe=>by have:=(B.out.lt _ e.symm).1;omega
    obtain⟨X,l⟩:∃X,X=(wr.alloc (.cells #[.string ⟨h.toArray⟩,.slice Y g[i].choice.length Z] 142)).drew:=⟨_,rfl⟩;have aJ:X.heap.size=wr.heap.size+1:=by rw[l];show(wr.alloc _).heap.size=_;simp
    have a6:Hid (wr.heap.size<X.heap.size):=by show _<_;omega
    have a8:Hid (d.heap.size<X.heap.size):=by show _<_;omega
    have aa:Hid (f<X.heap.size):=by show _<_;omega
    have a7:Hid (X.cell? ⟨wr.heap.size,0,N⟩=S (.string ⟨h.toArray⟩)):=by show X.cell? _=_;rw[l];exact(z8 (zk wr _) 0)
    have a9:Hid (X.cell? ⟨d.heap.size,1,N⟩=S (.slice (S ⟨f,0,N⟩) g.length g.length)):=by show X.cell? _=_;rw[l];show(wr.alloc _).cell? _=_;rw[World.cell?_alloc_lt _ _ _ (by show d.heap.size<_;omega)];exact qf
    have ab:Hid (X.cell? ⟨f,i,N⟩=S (.bool b)):=by show X.cell? _=_;rw[l];show(wr.alloc _).cell? _=_;rw[World.cell?_alloc_lt _ _ _ (by show f<_;omega)];exact e0
    have a5:Hid (X.ownsRow c.heap.size 151 2 (.slice G i H) i ((List.take i (zr0 (zg g) E)).flatMap zrM)):=by rw[l];exact B.out.alloc _
    rw[l]at a6 a8 aa a7 a9 ab a5 aJ;clear ah l;have H1:Hid (∀u∈[Value.string ⟨h.toArray⟩,.bool b],u.oneCell'=true):=by intro u hu;simp at hu;rcases hu with rfl|rfl<;>rfl
    have aC:Hid (i+1<=maxLen):=by show _<=_;unfold maxLen;omega
    have b2:f<wr.heap.size:=by omega
    have aR:g[i].choice.length=g[i].choice.length:=rfl;clear c0 c1 n R af a2 a0 ag aS aR;go_wp2_with fail;go_region_held_law (λA=>A.cell? ⟨wr.heap.size,0,N⟩=S (.string ⟨h.toArray⟩)/\A.cell? ⟨d.heap.size,1,N⟩=S (.slice (S ⟨f,0,N⟩) g.length g.length)/\A.cell? ⟨f,i,N⟩=S (.bool b)) (go_keep) (first|(go_at_call 73;refine aw.out.mono ?_;rintro _ w5⟨rfl,o⟩;have b9:=o.size;have s1:=(o.cell (p:=⟨wr.heap.size,0,N⟩) a6.out).trans a7.out;have s2:=(o.cell (p:=⟨d.heap.size,1,N⟩) a8.out).trans a9.out;have s3:=(o.cell (p:=⟨f,i,N⟩) aa.out).trans ab.out;have aH:=z6 (Zv a5.out o);have au:=z6 o;clear o)|(refine step_append_lies _ (by rfl) _ _ _ (by rfl) c.heap.size 151 i0 _ 2 24 underlying92 aP aT aU aV (by rfl) (by decide) _ _ _ (by rfl) (aH.out.alloc _) ⟨w5.heap.size,0,N⟩ 1 1 [.string ⟨h.toArray⟩,.bool b] (by rfl) (by rfl) (World.news_of_block (zk w5 _)) H1.out (by decide) aC.out (by omega) (by simp;omega) (w5.heap.size+1) (by simp) ?_;intro g2 b1 w6 ao F aK b5;have t1:=zsR F s1 aD.out;have t2:=zsR F s2 aE.out;have t3:=zsR F s3 aF.out;have HA:=z6 (zub j.out.1 B.out am aA.out au.out ao F);clear ao F aK));all_goals go_wp2_with fail
    all_goals
     go_roundg (g.length-(i+1));case measure=>omega
     case rel=>exact⟨i+1,rfl,by go_num,by omega,HA⟩
   ·have aQ:¬(i:Int)<g.length:=by omega
    have an:(zr0 (zg g) E).length<=i:=by
     have t:(zg g).length=g.length:=by simp[zg]
     simp[zr0,t];omega
    have ak:Told wr c.heap.size u9 (zr0 (zg g) E):=by have:=j.out.2;rw[List.take_of_length_le an]at this;exact this
    have HF:=z6 (Zn ak (show w.heap.size<=c.heap.size by omega));have av:Hid (Below w.heap.size w wr):=V.out.trans (j.out.1.mono (by omega));clear ak an;go_wp2_with fail;go_ret2;exact⟨av.out,.ok (g,E),W.out,_,rfl,HF.out⟩
theorem infoSheets:(prog.info? 154).map (λi=>(i.zero,i.size,i.bytes))=S (S (.slice N 0 0),1,24):=by kernel_rfl
def yL(m:Nat):List Value:=[.string (mkB m),.bool false]
abbrev yO(m:Nat):Obj:=.cells #[.string (mkB m),.bool false] 151 (0,0)
section
variable {w0 : World} {P : Nat → Prop} {zb m : Nat} {ao : Option Addr} {b n cap : Nat} {olds : List Value}
abbrev RSY(w0:World)(P:Nat->Prop)(m zb:Nat)(ao:Option Addr)(b n cap:Nat)(olds:List Value)(w:World):Prop:=w.cell? ⟨zb,0,N⟩=S (.string (mkB m))/\w.cell? ⟨zb,1,N⟩=S (.bool false)/\RSG w0 P 151 2 (yL m) zb ao b n cap olds w
theorem RSG.y{w:World}(h:RSG w0 P 151 2 (yL m) zb ao b n cap olds w):RSY w0 P m zb ao b n cap olds w:=⟨z8 h.zf 0,z8 h.zf 1,h⟩
theorem ztM{w:World}(h:RSY w0 P m zb ao b n cap olds w)(o:Obj):RSY w0 P m zb ao b n cap olds (w.alloc o):=(h.2.2.alloc o).y
theorem zur{w:World}{G:Array Oper}{o:Oper}{a:Act}{K:Act->World->Prop}{Q:Exit->Act->World->Prop}{E:Prop}(t:o.guard=N)(s x:Operand)(y:o.op=.call {callee:=.builtin .append,args:=#[s,x],argTypes:=#[92,92]})(h:RSY w0 P m zb ao b n cap olds w)(A:a.eval s=.slice ao n cap)(p k c:Nat)(B:a.eval x=.slice (S ⟨p,0,N⟩) k c)(v:k=1\/k=2\/k=3)(z:w.heap[p]?=S (.cells (zrZ (yL m) k).toArray 151 (0,0)))(r:n<=5000)(q:∀e f d,J4 P 2 d (.slice e (n+k) f) (n+k)->EvW w d->RSY w0 P m zb ao b n cap olds d->GrW w d (λx=>x=b/\0<cap)->K (a.put o.dst (.slice e (n+k) f)) d):if Region.wanted o (yielded G a.tmps)=true then Oper.wp prog o a w K Q else E:=by obtain⟨J,u,D,F,H⟩:=info_parts infoARule;exact ztm underlying92 u D F (by omega) rfl (List.all_eq_true.1 rfl) t s x y h.2.2 A p k c B v z r (λe f d g i j l=>q e f d g i j.y l)
end
theorem ztE(w:World)(d m K Bl:Nat)(vp va vb v:Value)(E olds:List Value)(n:Nat)(R:w.heap[d]?=S (plO vp vb va))(a0:w.ownsRow K 154 1 va m E)(hl:w.ownsRow Bl 151 2 v n olds)(hn:n<=5000)(hm:m<=5000000000000)(ag:K<=w.heap.size):Calls P 45 #[.pointer (S ⟨d,1,N⟩),v] w λe y=>e=.returned (.tuple #[])/\BkG (λu=>#[vp,vb,u]) 92 154 2 (yL m) d K m va v E w y:=by
 obtain⟨ao,b,cap,rfl,hL⟩:=zg4 hl;obtain⟨B,D,rfl⟩:=zl a0;have q1:w.cell? ⟨d,2,N⟩=S (.slice B m D):=z8 R 2;have aq:=za R;have W:Hid (∀x,(Value.slice ao n cap).ownBlock=S x->x<w.heap.size/\x≠d/\(Value.slice B m D).ownBlock≠S x):=z6 (λx t=>by
  have h1:=hl.lt x t;obtain⟨az,c⟩:=Zr hl t;refine⟨h1.2,?_,?_⟩;·rintro rfl;rw[R]at c;simp at c
  ·intro e;obtain⟨aR,ak⟩:=Zr a0 e;rw[c]at ak;simp at ak)
 have HY:=z6 R;have Y:=z6 a0;have aS:=ag;have L:=z6 hL;clear hL R a0 hl;have al:=ztf m hm w;go_enter func45,ntmps45;go_wp2_with fail;refine al.mono ?_;rintro _ w1⟨rfl,a9⟩;replace a9:=a9.symm;subst a9;clear al;obtain⟨X,s⟩:∃X,X=w.alloc (yO m):=⟨_,rfl⟩;have q:X.heap.size=w.heap.size+1:=by rw[s];simp
 have ah:Below w.heap.size w X:=by rw[s];exact zc _ _
 have ai:X.heap[w.heap.size]?=S (yO m):=by rw[s];exact zk _ _
 have am:¬((Value.slice ao n cap).ownBlock=S w.heap.size\/X.heap.size<=w.heap.size):=by
  rintro(h|h);·have:=(W.out _ h).1;omega
  ·omega
 have aA:RSY X (λx=>(Value.slice ao n cap).ownBlock=S x\/X.heap.size<=x) m w.heap.size ao b n cap olds X.drew:=by
  refine RSG.y ⟨?_,by show _<X.heap.size;omega,⟨rfl,rfl,rfl,Nat.le_refl _,λ_ _ _=>rfl⟩,ai,λ⟨e,c⟩=>by have:=L.out.came.lt c;omega,λx t=>.inr t⟩;have aB:EvW w X.drew:=by rw[s];exact EvW.alloc w _
  refine(L.out.impP (λx t=>.inl t)).ev aB (by show _<=X.heap.size;omega) (λj u hu=> ?_);have r:=L.out.came.olds j u hu;rw[Nat.zero_add]at r;rw[s];show(w.alloc _).cell? _=_;rw[World.cell?_alloc_lt _ _ _ (World.block_lt_of_cell? w _ r)];exact r
 have av:Hid (0<cap->((Value.slice ao n cap).ownBlock=S b\/X.heap.size<=b)):=z6 (λc=>.inl (L.out.pb c));have ab:=z6 L.out.came.lt;have ae:=z6 am;have af:=z6 ah;clear ai am ah;go_wp2_with fail;rw[<-s];have HX:=z6 s;clear s;go_cut [5]from 15 to 63 (λv5 wx=>∃(a:Nat) (A:Nat->Option Addr) (C:Nat->Nat),v5=.slice (S ⟨a,0,N⟩) 4 4/\zrc X (λx=>(Value.slice ao n cap).ownBlock=S x\/X.heap.size<=x) 151 92 2 (yL m) w.heap.size a n A C 0 0 wx);case first=>
  go_region_held_law (λy=>RSY X (λx=>(Value.slice ao n cap).ownBlock=S x\/X.heap.size<=x) m w.heap.size ao b n cap olds y) (first|assumption|exact ztM (by assumption) _)
   ((refine zur (by rfl) _ _ (by rfl) (by assumption) (by rfl) _ _ _ (by rfl) (by decide) (by
    (try rw[Vw]);repeat' (first
     |(refine Ji _ _ _ ?_;simp[q];done)|(refine Ji _ _ _ ?_;simp;done)|(refine(zm _ _ ?_).trans ?_;·first|omega|(simp[q];done)|(simp[q];omega)|(simp;omega))
     |(
      refine GrW.look (by assumption) ?_ ?_ ?_;·first|omega|(rw[Vw];simp[q];done)|(rw[Vw];simp[q];omega)|(simp;done)|(simp[q];done)|(simp;omega)|(simp[q];omega)
      ·intro h;obtain⟨e,c⟩:=h;have:=ab.out c;omega
      (try rw[Vw])))) hn ?_;intro ax ay y Z l hS o;have hz:=o.size;(try rw[Vw]at hz);(try simp[q]at hz);(first|replace F:=F.ev l o.size|replace F:=(F.ev (EvW.alloc _ _) (by simp)).ev l o.size|replace F:=((F.ev (EvW.alloc _ _) (by simp)).ev (EvW.alloc _ _) (by simp)).ev l o.size|skip);(first|replace G:=G.ev l o.size|replace G:=(G.ev (EvW.alloc _ _) (by simp)).ev l o.size|replace G:=((G.ev (EvW.alloc _ _) (by simp)).ev (EvW.alloc _ _) (by simp)).ev l o.size|skip);(first|replace H:=H.ev l o.size|replace H:=(H.ev (EvW.alloc _ _) (by simp)).ev l o.size|replace H:=((H.ev (EvW.alloc _ _) (by simp)).ev (EvW.alloc _ _) (by simp)).ev l o.size|skip);(first|(have F:J4 _ _ _ _ (n+1):=Z)|(have G:J4 _ _ _ _ (n+2):=Z)|(have H:J4 _ _ _ _ (n+3):=Z));clear Z l))
  all_goals(try go_wp2_with fail)
  all_goals go_meet
  all_goals exact ztd hS.2.2 ae.out av.out F G H
 case rest=>
  obtain⟨a,A,C,rfl,hF⟩:=hcut;have HF:=z6 hF;have ad:Hid (∀k i wr,zrc X (λx=>(Value.slice ao n cap).ownBlock=S x\/X.heap.size<=x) 151 92 2 (yL m) w.heap.size a n A C k i wr->∀x,x<w.heap.size->(Value.slice ao n cap).ownBlock≠S x->wr.heap[x]?=w.heap[x]?):=z6 (λk i wr h x t aH=>by rw[h.fr.block x (by omega) (by rintro(h|h);exact aH h;omega)];exact af.out.block x t)
  clear hF aA ab HX L q1;go_wp2_with fail;go_loopg[6] 4 (λmm v wr=>∃k:Nat,mm=4-k/\v=I J k/\k<=4/\Hid (zrc X (λx=>(Value.slice ao n cap).ownBlock=S x\/X.heap.size<=x) 151 92 2 (yL m) w.heap.size a n A C k 0 wr));case atStart=>exact⟨0,by omega,rfl,by omega,HF⟩
  case round=>
   obtain⟨k,rfl,rfl,hk,z⟩:=hrel;have a8:=z8 z.out.nk;have aW:=za z.out.nk;by_cases a7:k<4
   ·have aF:(k:Int)<4:=by omega
    have aK:wr.cell? ⟨a,k,N⟩=S (.slice (A k) (n+k) (C k)):=by
     rw[a8];have a6:k=0\/k=1\/k=2\/k=3:=by omega
     rcases a6 with rfl|rfl|rfl|rfl<;>rfl
    clear HF a8;go_wp2_with fail;go_loopg[7] (n+k) (λmm v wr=>∃i:Nat,mm=n+k-i/\v=I J i/\i<=n+k/\Hid (zrc X (λx=>(Value.slice ao n cap).ownBlock=S x\/X.heap.size<=x) 151 92 2 (yL m) w.heap.size a n A C k i wr));case atStart=>exact⟨0,by omega,rfl,by omega,z⟩
    case round=>
     obtain⟨i,rfl,rfl,hi,p⟩:=hrel;have an:=z8 p.out.nk;have aX:=za p.out.nk;have aL:wr.cell? ⟨a,k,N⟩=S (.slice (A k) (n+k) (C k)):=by
      rw[an];have a6:k=0\/k=1\/k=2\/k=3:=by omega
      rcases a6 with rfl|rfl|rfl|rfl<;>rfl
     clear an;by_cases aD:i<n+k
     ·have aE:(i:Int)<(n+k:Nat):=by omega
      obtain⟨ax,M,ay,e1,r,h3,h4⟩:=p.out.rooms k a7;cases e1;obtain⟨a1,⟨a2,a5⟩,a3⟩:=r (by omega);have f0:=h4 (i *2) (by omega);have f1:=h4 (i *2+1) (by omega);have z0:wr.cell? ⟨w.heap.size,0,N⟩=S (.string (mkB m)):=z8 p.out.zf 0;have z1:wr.cell? ⟨w.heap.size,1,N⟩=S (.bool false):=z8 p.out.zf 1;have b2:=za p.out.zf;obtain⟨x0,aY⟩:=Option.isSome_iff_exists.1 f0.1;obtain⟨x1,aZ⟩:=Option.isSome_iff_exists.1 f1.1;have g0:=f0.2;have g1:=f1.2;have aw:=z6 (zrc.store (sz:=2) (zc:=yL m) rfl p.out.drew a7 aD a1);have aI:M≠a:=a5;have aJ:M≠w.heap.size:=λe=>ae.out (e▸a2);have aU:¬a=M:=λe=>aI e.symm;have aV:¬w.heap.size=M:=λe=>aJ e.symm;rw[a1]at aL;clear f0 f1 r h4 aK;go_wp2_with fail;go_region_held (λy=>y.cell? ⟨a,k,N⟩=S (.slice (S ⟨M,0,N⟩) (n+k) (C k))/\y.cell? ⟨w.heap.size,0,N⟩=S (.string (mkB m))/\y.cell? ⟨w.heap.size,1,N⟩=S (.bool false)) (go_keep) (fail);all_goals go_wp2_with fail
      all_goals
       go_roundg (n+k-(i+1));case measure=>omega
       case rel=>exact⟨i+1,rfl,by go_num,by omega,aw⟩
     ·have aE:¬(i:Int)<(n+k:Nat):=by omega
      have aT:¬(i:Int)<(n:Int)+k:=by omega
      have HN:Hid (zrc X (λx=>(Value.slice ao n cap).ownBlock=S x\/X.heap.size<=x) 151 92 2 (yL m) w.heap.size a n A C (k+1) 0 wr):=z6 {p.out with full:=λk' i' h1 r h3=>p.out.full k' i' h1 r (by omega)};go_wp2_with fail;go_roundg (4-(k+1));case measure=>omega
      case rel=>exact⟨k+1,rfl,by go_num,by omega,HN⟩
   ·have aF:¬(k:Int)<4:=by omega
    have U:wr.heap[d]?=S (plO vp vb (.slice B m D)):=by rw[ad.out _ _ _ z.out d aq (λe=>(W.out _ e).2.1 rfl)];exact HY.out
    have aM:wr.cell? ⟨d,2,N⟩=S (.slice B m D):=z8 U 2;have b0:wr.frozen? ⟨d,2,N⟩=false:=zi U 2;have b1:=za U;have a4:=z6 U;have au:Hid (wr.ownsRow K 154 1 (.slice B m D) m E):=z6 (Z6 Y.out (λg hg=>ad.out _ _ _ z.out g (Y.out.lt g hg).2 (λe=>(W.out _ e).2.2 hg)));have ar:Hid (m+1<=maxLen):=by show _<=_;unfold maxLen;omega
    have V:Hid (S d≠(Value.slice B m D).ownBlock):=z6 (λe=>by obtain⟨az,c⟩:=Zr Y.out e.symm;rw[HY.out]at c;simp at c)
    obtain⟨i0,aC,aN,aO,aP⟩:=info_parts infoSheets;have ag:K<=wr.heap.size:=by have:=z.out.fr.size;omega
    clear HF a8 U;go_wp2_with(first|(at_builtin;refine wpList_append_lies _ rfl _ _ 32 rfl K 154 i0 _ 1 24 underlying32 aC aN aO aP rfl (by decide) _ _ _ rfl (au.out.alloc _) ⟨wr.heap.size,0,N⟩ 1 1 [Jy a] rfl rfl (World.news_of_block (zk wr _)) (by intro u hu;simp at hu;subst hu;rfl) (by decide) ar.out (by omega) (by simp;omega) (wr.heap.size+1) (by simp) ?_));intro g3 aQ w5 ap O aj aG;have y1:w5.cell? ⟨d,2,N⟩=S (.slice B m D):=Kd O aM V.out;have y2:w5.frozen? ⟨d,2,N⟩=false:=zi (YC O a4.out V.out) 2;have y3:=za (YC O a4.out V.out);have HZ:=z6 (zt5 (cs:=λu=>#[vp,vb,u]) (f:=2) (λ_ _=>rfl) (by decide) z.out hk a7 af.out q hn W.out Y.out HY.out aq a4.out V.out ap O aj);clear ap O aj aG;go_wp2_with fail;go_end0;exact⟨rfl,HZ.out⟩
def zsg(j:Value->Array Value)(i h:TypeId)(k:Nat)(zc:List Value)(e f m:Nat)(d:Value)(E:List Value)(w b:World):Prop:=∃a c,b.heap[e]?=S (.cells (j a) 36 (0,0))/\b.ownsRow f h 1 a (m+1) (E++[Jy c])/\zrB i k zc (λx=>w.heap.size<=x/\a.ownBlock≠S x) b c/\GrW w b (λx=>x=e\/d.ownBlock=S x)/\(a.ownBlock=d.ownBlock\/∃g,a.ownBlock=S g/\w.heap.size<=g)
theorem BkG.trd{k:Value->Array Value}{T j i:TypeId}{p F:Nat}{zc:List Value}{s f m n:Nat}{q v:Value}{E D:List Value}{w d r:World}(b:Below w.heap.size w d)(l:d.ownsRow w.heap.size T F v n D)(h:BkG k j i p zc s f m q v E d r):zsg k j i p zc s f m q E w r:=by
 obtain⟨G,B,t,u,y,a,z⟩:=h;have A:=b.size;refine⟨G,B,t,u,y.imp (λx c=> ?_),⟨a.os.trans b.os,a.tape.trans b.tape,a.output.trans b.output,Nat.le_trans A a.size,λx c o=> ?_⟩,?_⟩
 ·refine⟨?_,c.2⟩;rcases c.1 with e|e;·exact(l.lt x e).1
  ·omega
 ·rw[a.block x (by omega) (by
   rintro(e|e|e);·exact o (.inl e)
   ·have:=(l.lt x e).1;omega
   ·exact o (.inr e))]
  exact b.block x c
 ·rcases z with e|⟨g,e,H⟩;·exact .inl e
  ·exact .inr ⟨g,e,by omega⟩
theorem zut(s:ByteArray)(w:World)(c m i:Nat)(q o f:Value)(l:List Value)(hs:s.size<=maxLen)(hg:QD w)(V:w.heap[c]?=S (plO q o f))(a7:w.ownsRow i 154 1 f m l)(hm:m<=5000000000000)(aj:i<=w.heap.size):Calls P 19 #[.pointer (S ⟨c,0,N⟩),.string s] w λe w'=>e=.returned (.bool true)/\zsg (λu=>#[q,o,u]) 92 154 2 (yL m) c i m f l w w':=by
 have a3:=zu8 s w hs hg;have ag:=za V;have HY:=z6 V;have ad:=z6 a7;clear hg V a7;go_enter func19,ntmps19;go_wp2_with fail;refine a3.mono ?_;rintro e j⟨O,t,B,z⟩;obtain⟨r,hr⟩:=B.pread;have a4:=zui s j hs r hr;have ah:=O.size;have a9:=z6 O;have y:=z6 B;clear a3 O B hr;obtain⟨L,v,b,ak,ae,af⟩:∃(L:List (z7×Bool)) (v:Value) (b:Nat),L.length<=20/\e=.returned (.tuple #[v,I J b])/\(Told j w.heap.size v L/\∀(d:Ending) (a:World),(Below j.heap.size j a/\∃t,Zo s.data.toList t/\match t with| .ok (g,E)=>∃v,d=.returned (.tuple #[v,I J 0])/\Told a j.heap.size v (zr0 (zg g) E)| .error (b,_)=>b≠0/\d=.returned (.tuple #[.slice N 0 0,I J b]))->∃Z,d=.returned (.tuple #[Z,I J b])/\Told a j.heap.size Z L):=by
  cases t with
  |error x=>obtain⟨b,p⟩:=x;refine⟨[],.slice N 0 0,b,by simp,z.2,World.ownsRow_nil _ _ _ _,?_⟩;rintro d a⟨_,ai,D,A⟩;have:=y.out.det D;subst this;exact⟨_,A.2,World.ownsRow_nil _ _ _ _⟩
  |ok x=>obtain⟨g,E⟩:=x;obtain⟨v,hv,ht⟩:=z;refine⟨_,v,0,by have:=y.out.rules20;simp[zr0,zg];omega,hv,ht,?_⟩;rintro d a⟨_,ai,D,A⟩;have:=y.out.det D;subst this;exact A
 subst ae;obtain⟨G,a5⟩:=af;obtain⟨X,Y,rfl,_,_⟩:=G.gen;have aa:=z6 G;have a2:=z6 a5;clear z G a5;go_wp2_with fail;refine a4.mono ?_;rintro d a F;obtain⟨Z,rfl,K⟩:=a2.out d a F;have R:=F.1;obtain⟨am,an,rfl,_,_⟩:=K.gen;have H:Told a w.heap.size (.slice X L.length Y) L:=Zv aa.out R;have a6:=zuk a _ _ _ _ L H K;have ab:=z6 H;have a0:Hid (Below w.heap.size w a):=a9.out.trans (R.mono ah);clear a4 F K R H a2;go_wp2_with fail;refine a6.mono ?_;rintro _ k⟨rfl,U⟩;have n:Below w.heap.size w k:=a0.out.trans (U.mono a0.out.size);have M:Told k w.heap.size (.slice X L.length Y) L:=Zv ab.out U;have W:k.heap[c]?=S (plO q o f):=by rw[n.block c ag];exact HY.out
 have a8:k.ownsRow i 154 1 f m l:=Zv ad.out n;have al:=za W;have a1:Hid (Calls P 45 #[.pointer (S ⟨c,1,N⟩),.slice X L.length Y] k λe w4=>e=.returned (.tuple #[])/\Hid (zsg (λu=>#[q,o,u]) 92 154 2 (yL m) c i m f l w w4)):=z6 ((ztE k c m i w.heap.size q f o _ l _ L.length W a8 M (by omega) hm (by have:=n.size;omega)).mono (λe w4 h=>⟨h.1,z6 (h.2.trd n M)⟩));clear a6 U n M W a8;go_wp2_with fail;refine a1.out.mono ?_;rintro _ w4⟨rfl,HZ⟩;clear a1;go_wp2_with fail;go_ret;exact⟨by simp,HZ.out⟩
section
variable {w0 : World} {P : Nat → Prop} {zb m : Nat} {ao : Option Addr} {b n cap : Nat} {olds : List Value}
abbrev RSX(w0:World)(P:Nat->Prop)(m zb:Nat)(ao:Option Addr)(b n cap:Nat)(olds:List Value)(w:World):Prop:=w.cell? ⟨zb,0,N⟩=S (I J (-7070))/\w.cell? ⟨zb,1,N⟩=S (I J m)/\w.cell? ⟨zb,2,N⟩=S (I J 0)/\w.cell? ⟨zb,3,N⟩=S (I J 0)/\RSG w0 P 60 4 (zL m) zb ao b n cap olds w
theorem RSG.x{w:World}(h:RSG w0 P 60 4 (zL m) zb ao b n cap olds w):RSX w0 P m zb ao b n cap olds w:=⟨z8 h.zf 0,z8 h.zf 1,z8 h.zf 2,z8 h.zf 3,h⟩
theorem ztL{w:World}(h:RSX w0 P m zb ao b n cap olds w)(o:Obj):RSX w0 P m zb ao b n cap olds (w.alloc o):=(h.2.2.2.2.alloc o).x
theorem zuq{w:World}{G:Array Oper}{o:Oper}{a:Act}{K:Act->World->Prop}{Q:Exit->Act->World->Prop}{E:Prop}(t:o.guard=N)(s x:Operand)(y:o.op=.call {callee:=.builtin .append,args:=#[s,x],argTypes:=#[53,53]})(h:RSX w0 P m zb ao b n cap olds w)(A:a.eval s=.slice ao n cap)(p k c:Nat)(B:a.eval x=.slice (S ⟨p,0,N⟩) k c)(v:k=1\/k=2\/k=3)(z:w.heap[p]?=S (.cells (zrZ (zL m) k).toArray 60 (0,0)))(r:n<=5000)(q:∀e f d,J4 P 4 d (.slice e (n+k) f) (n+k)->EvW w d->RSX w0 P m zb ao b n cap olds d->GrW w d (λx=>x=b/\0<cap)->K (a.put o.dst (.slice e (n+k) f)) d):if Region.wanted o (yielded G a.tmps)=true then Oper.wp prog o a w K Q else E:=by obtain⟨J,u,D,F,H⟩:=info_parts infoNode;exact ztm underlying53 u D F (by omega) rfl (List.all_eq_true.1 rfl) t s x y h.2.2.2.2 A p k c B v z r (λe f d g i j l=>q e f d g i j.x l)
end
theorem zt6(w:World)(d m K Bl:Nat)(vp va vb v:Value)(E olds:List Value)(n:Nat)(U:w.heap[d]?=S (plO vp va vb))(a0:w.ownsRow K 163 1 va m E)(hl:w.ownsRow Bl 60 4 v n olds)(hn:n<=5000)(hm:m<=5000000000000)(af:K<=w.heap.size):Calls P 49 #[.pointer (S ⟨d,1,N⟩),v] w λe q=>e=.returned (.tuple #[])/\BkG (λu=>#[vp,u,vb]) 53 163 4 (zL m) d K m va v E w q:=by
 obtain⟨ao,b,cap,rfl,hL⟩:=zg4 hl;obtain⟨B,D,rfl⟩:=zl a0;have q1:w.cell? ⟨d,1,N⟩=S (.slice B m D):=z8 U 1;have an:=za U;have Y:Hid (∀x,(Value.slice ao n cap).ownBlock=S x->x<w.heap.size/\x≠d/\(Value.slice B m D).ownBlock≠S x):=z6 (λx y=>by
  have h1:=hl.lt x y;obtain⟨ax,c⟩:=Zr hl y;refine⟨h1.2,?_,?_⟩;·rintro rfl;rw[U]at c;simp at c
  ·intro e;obtain⟨aP,aj⟩:=Zr a0 e;rw[c]at aj;simp at aj)
 have HY:=z6 U;have Z:=z6 a0;have aQ:=af;have L:=z6 hL;clear hL U a0 hl;go_enter func49,ntmps49;go_wp2_with fail;obtain⟨X,t⟩:∃X,X=w.alloc (zO m):=⟨_,rfl⟩;have r:X.heap.size=w.heap.size+1:=by rw[t];simp
 have ag:Below w.heap.size w X:=by rw[t];exact zc _ _
 have ah:X.heap[w.heap.size]?=S (zO m):=by rw[t];exact zk _ _
 have ak:¬((Value.slice ao n cap).ownBlock=S w.heap.size\/X.heap.size<=w.heap.size):=by
  rintro(h|h);·have:=(Y.out _ h).1;omega
  ·omega
 have ay:RSX X (λx=>(Value.slice ao n cap).ownBlock=S x\/X.heap.size<=x) m w.heap.size ao b n cap olds X.drew:=by
  refine RSG.x ⟨?_,by show _<X.heap.size;omega,⟨rfl,rfl,rfl,Nat.le_refl _,λ_ _ _=>rfl⟩,ah,λ⟨e,c⟩=>by have:=L.out.came.lt c;omega,λx y=>.inr y⟩;have az:EvW w X.drew:=by rw[t];exact EvW.alloc w _
  refine(L.out.impP (λx y=>.inl y)).ev az (by show _<=X.heap.size;omega) (λj u hu=> ?_);have s:=L.out.came.olds j u hu;rw[Nat.zero_add]at s;rw[t];show(w.alloc _).cell? _=_;rw[World.cell?_alloc_lt _ _ _ (World.block_lt_of_cell? w _ s)];exact s
 have ar:Hid (0<cap->((Value.slice ao n cap).ownBlock=S b\/X.heap.size<=b)):=z6 (λc=>.inl (L.out.pb c));have a9:=z6 L.out.came.lt;have ad:=z6 ak;have ae:=z6 ag;clear ah ak ag;go_wp2_with fail;rw[<-t];have HX:=z6 t;clear t;go_cut [5]from 14 to 31 (λv5 wx=>∃(a:Nat) (A:Nat->Option Addr) (C:Nat->Nat),v5=.slice (S ⟨a,0,N⟩) 4 4/\zrc X (λx=>(Value.slice ao n cap).ownBlock=S x\/X.heap.size<=x) 60 53 4 (zL m) w.heap.size a n A C 0 0 wx);case first=>
  go_region_held_law (λq=>RSX X (λx=>(Value.slice ao n cap).ownBlock=S x\/X.heap.size<=x) m w.heap.size ao b n cap olds q) (first|assumption|exact ztL (by assumption) _)
   ((refine zuq (by rfl) _ _ (by rfl) (by assumption) (by rfl) _ _ _ (by rfl) (by decide) (by
    (try rw[Vw]);repeat' (first
     |(refine Ji _ _ _ ?_;simp[r];done)|(refine Ji _ _ _ ?_;simp;done)|(refine(zm _ _ ?_).trans ?_;·first|omega|(simp[r];done)|(simp[r];omega)|(simp;omega))
     |(
      refine GrW.look (by assumption) ?_ ?_ ?_;·first|omega|(rw[Vw];simp[r];done)|(rw[Vw];simp[r];omega)|(simp;done)|(simp[r];done)|(simp;omega)|(simp[r];omega)
      ·intro h;obtain⟨e,c⟩:=h;have:=a9.out c;omega
      (try rw[Vw])))) hn ?_;intro av aw q hR o hS p;have hz:=p.size;(try rw[Vw]at hz);(try simp[r]at hz);(first|replace F:=F.ev o p.size|replace F:=(F.ev (EvW.alloc _ _) (by simp)).ev o p.size|replace F:=((F.ev (EvW.alloc _ _) (by simp)).ev (EvW.alloc _ _) (by simp)).ev o p.size|skip);(first|replace G:=G.ev o p.size|replace G:=(G.ev (EvW.alloc _ _) (by simp)).ev o p.size|replace G:=((G.ev (EvW.alloc _ _) (by simp)).ev (EvW.alloc _ _) (by simp)).ev o p.size|skip);(first|replace H:=H.ev o p.size|replace H:=(H.ev (EvW.alloc _ _) (by simp)).ev o p.size|replace H:=((H.ev (EvW.alloc _ _) (by simp)).ev (EvW.alloc _ _) (by simp)).ev o p.size|skip);(first|(have F:J4 _ _ _ _ (n+1):=hR)|(have G:J4 _ _ _ _ (n+2):=hR)|(have H:J4 _ _ _ _ (n+3):=hR));clear hR o))
  all_goals(try go_wp2_with fail)
  all_goals go_meet
  all_goals exact ztd hS.2.2.2.2 ad.out ar.out F G H
 case rest=>
  obtain⟨a,A,C,rfl,hF⟩:=hcut;have HF:=z6 hF;have ab:Hid (∀k i wr,zrc X (λx=>(Value.slice ao n cap).ownBlock=S x\/X.heap.size<=x) 60 53 4 (zL m) w.heap.size a n A C k i wr->∀x,x<w.heap.size->(Value.slice ao n cap).ownBlock≠S x->wr.heap[x]?=w.heap[x]?):=z6 (λk i wr h x y aF=>by rw[h.fr.block x (by omega) (by rintro(h|h);exact aF h;omega)];exact ae.out.block x y)
  clear hF ay a9 HX L q1;go_wp2_with fail;go_loopg[6] 4 (λmm v wr=>∃k:Nat,mm=4-k/\v=I J k/\k<=4/\Hid (zrc X (λx=>(Value.slice ao n cap).ownBlock=S x\/X.heap.size<=x) 60 53 4 (zL m) w.heap.size a n A C k 0 wr));case atStart=>exact⟨0,by omega,rfl,by omega,HF⟩
  case round=>
   obtain⟨k,rfl,rfl,hk,z⟩:=hrel;have a8:=z8 z.out.nk;have aU:=za z.out.nk;by_cases a7:k<4
   ·have aD:(k:Int)<4:=by omega
    have aI:wr.cell? ⟨a,k,N⟩=S (.slice (A k) (n+k) (C k)):=by
     rw[a8];have a6:k=0\/k=1\/k=2\/k=3:=by omega
     rcases a6 with rfl|rfl|rfl|rfl<;>rfl
    clear HF a8;go_wp2_with fail;go_loopg[7] (n+k) (λmm v wr=>∃i:Nat,mm=n+k-i/\v=I J i/\i<=n+k/\Hid (zrc X (λx=>(Value.slice ao n cap).ownBlock=S x\/X.heap.size<=x) 60 53 4 (zL m) w.heap.size a n A C k i wr));case atStart=>exact⟨0,by omega,rfl,by omega,z⟩
    case round=>
     obtain⟨i,rfl,rfl,hi,l⟩:=hrel;have al:=z8 l.out.nk;have aV:=za l.out.nk;have aJ:wr.cell? ⟨a,k,N⟩=S (.slice (A k) (n+k) (C k)):=by
      rw[al];have a6:k=0\/k=1\/k=2\/k=3:=by omega
      rcases a6 with rfl|rfl|rfl|rfl<;>rfl
     clear al;by_cases aB:i<n+k
     ·have aC:(i:Int)<(n+k:Nat):=by omega
      obtain⟨av,M,aw,e1,s,h3,O⟩:=l.out.rooms k a7;cases e1;obtain⟨a1,⟨a2,a5⟩,a3⟩:=s (by omega);have f0:=O (i *4) (by omega);have f1:=O (i *4+1) (by omega);have f2:=O (i *4+2) (by omega);have f3:=O (i *4+3) (by omega);have z0:wr.cell? ⟨w.heap.size,0,N⟩=S (I J (-7070)):=z8 l.out.zf 0;have z1:wr.cell? ⟨w.heap.size,1,N⟩=S (I J m):=z8 l.out.zf 1;have z2:wr.cell? ⟨w.heap.size,2,N⟩=S (I J 0):=z8 l.out.zf 2;have z3:wr.cell? ⟨w.heap.size,3,N⟩=S (I J 0):=z8 l.out.zf 3;have b2:=za l.out.zf;obtain⟨x0,aW⟩:=Option.isSome_iff_exists.1 f0.1;obtain⟨x1,aX⟩:=Option.isSome_iff_exists.1 f1.1;obtain⟨x2,aY⟩:=Option.isSome_iff_exists.1 f2.1;obtain⟨x3,aZ⟩:=Option.isSome_iff_exists.1 f3.1;have g0:=f0.2;have g1:=f1.2;have g2:=f2.2;have g3:=f3.2;have au:=z6 (zrc.store (sz:=4) (zc:=zL m) rfl l.out.drew a7 aB a1);have aG:M≠a:=a5;have aH:M≠w.heap.size:=λe=>ad.out (e▸a2);have aS:¬a=M:=λe=>aG e.symm;have aT:¬w.heap.size=M:=λe=>aH e.symm;rw[a1]at aJ;clear f0 f1 f2 f3 s O aI;go_wp2_with fail;go_region_held (λq=>q.cell? ⟨a,k,N⟩=S (.slice (S ⟨M,0,N⟩) (n+k) (C k))/\q.cell? ⟨w.heap.size,0,N⟩=S (I J (-7070))/\q.cell? ⟨w.heap.size,1,N⟩=S (I J m)/\q.cell? ⟨w.heap.size,2,N⟩=S (I J 0)/\q.cell? ⟨w.heap.size,3,N⟩=S (I J 0)) (go_keep) (fail);all_goals go_wp2_with fail
      all_goals
       go_roundg (n+k-(i+1));case measure=>omega
       case rel=>exact⟨i+1,rfl,by go_num,by omega,au⟩
     ·have aC:¬(i:Int)<(n+k:Nat):=by omega
      have aR:¬(i:Int)<(n:Int)+k:=by omega
      have HN:Hid (zrc X (λx=>(Value.slice ao n cap).ownBlock=S x\/X.heap.size<=x) 60 53 4 (zL m) w.heap.size a n A C (k+1) 0 wr):=z6 {l.out with full:=λk' i' h1 s h3=>l.out.full k' i' h1 s (by omega)};go_wp2_with fail;go_roundg (4-(k+1));case measure=>omega
      case rel=>exact⟨k+1,rfl,by go_num,by omega,HN⟩
   ·have aD:¬(k:Int)<4:=by omega
    have V:wr.heap[d]?=S (plO vp (.slice B m D) vb):=by rw[ab.out _ _ _ z.out d an (λe=>(Y.out _ e).2.1 rfl)];exact HY.out
    have aK:wr.cell? ⟨d,1,N⟩=S (.slice B m D):=z8 V 1;have b0:wr.frozen? ⟨d,1,N⟩=false:=zi V 1;have b1:=za V;have a4:=z6 V;have aq:Hid (wr.ownsRow K 163 1 (.slice B m D) m E):=z6 (Z6 Z.out (λg hg=>ab.out _ _ _ z.out g (Z.out.lt g hg).2 (λe=>(Y.out _ e).2.2 hg)));have ap:Hid (m+1<=maxLen):=by show _<=_;unfold maxLen;omega
    have W:Hid (S d≠(Value.slice B m D).ownBlock):=z6 (λe=>by obtain⟨ax,c⟩:=Zr Z.out e.symm;rw[HY.out]at c;simp at c)
    obtain⟨i0,aA,aL,aM,aN⟩:=info_parts infoTrees;have af:K<=wr.heap.size:=by have:=z.out.fr.size;omega
    clear HF a8 V;go_wp2_with(first|(at_builtin;refine wpList_append_lies _ rfl _ _ 31 rfl K 163 i0 _ 1 24 underlying31 aA aL aM aN rfl (by decide) _ _ _ rfl (aq.out.alloc _) ⟨wr.heap.size,0,N⟩ 1 1 [Jy a] rfl rfl (World.news_of_block (zk wr _)) (by intro u hu;simp at hu;subst hu;rfl) (by decide) ap.out (by omega) (by simp;omega) (wr.heap.size+1) (by simp) ?_));intro g3 aO w5 am R ai aE;have y1:w5.cell? ⟨d,1,N⟩=S (.slice B m D):=Kd R aK W.out;have y2:w5.frozen? ⟨d,1,N⟩=false:=zi (YC R a4.out W.out) 1;have y3:=za (YC R a4.out W.out);have HZ:=z6 (zt5 (cs:=λu=>#[vp,u,vb]) (f:=1) (λ_ _=>rfl) (by decide) z.out hk a7 ae.out r hn Y.out Z.out HY.out an a4.out W.out am R ai);clear am R ai aE;go_wp2_with fail;go_end0;exact⟨rfl,HZ.out⟩
theorem zuu(t s:ByteArray)(w:World)(d m g:Nat)(l f k:Value)(E:List Value)(Z:t.size<=maxLen)(a0:s.size<=maxLen)(W:QD w)(D:w.heap[d]?=S (plO l f k))(a1:w.ownsRow g 163 1 f m E)(hm:m<=5000000000000)(ab:g<=w.heap.size):Calls P 21 #[.pointer (S ⟨d,0,N⟩),.string t,.string s] w λe w'=>e=.returned (.bool true)/\zsg (λu=>#[l,u,k]) 53 163 4 (zL m) d g m f E w w':=by
 have X:=zlp t s w Z a0 W;have a8:=za D;have HY:=z6 D;have a5:=z6 a1;clear W D a1;go_enter func21,ntmps21;go_wp2_with fail;refine X.mono ?_;rintro _ w1⟨V,v,c,rfl,o⟩;obtain⟨a,n,p,er,rfl,rfl⟩:=o.form;obtain⟨r,Y⟩:=o.pread;have O:=z6 (zil t s w1 Z a0 r Y);have J:=z6 V;have HI:=z6 o;clear X V o Y;go_wp2_with fail;refine O.out.mono ?_;rintro _ G⟨A,v2,c2,rfl,U⟩;obtain⟨L,aa,hL,hc,a6,q,y⟩:=HI.out.both U;obtain⟨a2,a9,rfl⟩:=zl y;cases hc;subst a6;obtain⟨_,_,a7⟩:=zl q;cases a7;have x:Y0 G w.heap.size (.slice a L.length p) L:=Zv q A;have R:=z6 (ziC G _ _ _ _ L x y);have a4:=z6 x;have K:Hid (Below w.heap.size w G):=J.out.trans (A.mono J.out.size);clear O A U q y x;go_wp2_with fail;refine R.out.mono ?_;rintro _ i⟨rfl,B⟩;have j:Below w.heap.size w i:=K.out.trans (B.mono K.out.size);have z:Y0 i w.heap.size (.slice a L.length p) L:=Zv a4.out B;have F:i.heap[d]?=S (plO l f k):=by rw[j.block d a8];exact HY.out
 have a3:i.ownsRow g 163 1 f m E:=Zv a5.out j;have ad:=za F;have M:Hid (Calls P 49 #[.pointer (S ⟨d,1,N⟩),.slice a L.length p] i λe H=>e=.returned (.tuple #[])/\Hid (zsg (λu=>#[l,u,k]) 53 163 4 (zL m) d g m f E w H)):=z6 ((zt6 i d m g w.heap.size l f k _ E _ L.length F a3 z hL hm (by have:=j.size;omega)).mono (λe H h=>⟨h.1,z6 (h.2.trd j z)⟩));clear R B j z F a3;go_wp2_with fail;refine M.out.mono ?_;rintro _ H⟨rfl,HZ⟩;clear M;go_wp2_with fail;go_ret;exact⟨by simp,HZ.out⟩
abbrev ZE(b:Nat)(e:Int)(a:Value)(c:Int)(d:Value)(ok:Bool):Obj:=.cells #[z9 b,I .u8 e,a,I J 0,I J 0,I J c,d,.bool ok] 119 (0,0)
theorem Ke{w:World}{b g:Nat}{a q:Int}{f:Value}{c:Int}{i:Value}{ok:Bool}(h:w.heap[b]?=S (ZE g a f c i ok)):Calls P 59 #[z9 b,I .u8 q] w λe j=>e=.returned (.bool (decide (a=q)))/\j=w:=by have k:=zd h;have l:w.cell? ⟨b,1,N⟩=S (I .u8 a):=z8 h 1;clear h;go_enter func59,ntmps59;go_wp2_with fail;go_ret;exact⟨by by_cases d:a=q<;>simp[d],rfl⟩
def zdx(t:List UInt8)(w:World)(e:Ending)(c:World):Prop:=Below w.heap.size w c/\∃f,Zo t f/\match f with| .error (d,_)=>d≠0/\e=.returned (.tuple #[.pointer N,I J d])| .ok (g,_)=>g.length<=20/\∃a b h i j k S,e=.returned (.tuple #[z9 a,I J 0])/\qx w.heap.size g w c b h i j k S/\c.heap[a]?=some (ZE b 1 (.slice N 0 0) 0 .nilIface false)/\w.heap.size<=a/\a≠b/\¬S a
theorem zhk(s:ByteArray)(w:World)(r:s.size<=maxLen)(l:QD w):Calls P 31 #[.string s] w λe A=>zdx s.data.toList w e A:=by
 have m:=zgl s w r l;clear l;go_enter func31,ntmps31;go_wp2_with fail;refine m.mono ?_;rintro e B⟨c,u,k,i⟩;have n:=c.size;have d:=z6 c;have b:=z6 k;clear m c k;cases u with
 |error x=>
  obtain⟨f,p⟩:=x;have D:=b.out.errNe;have F:¬(f:Int)=0:=by omega
  subst i;go_wp2_with fail;go_ret2;exact⟨d.out,.error (f,p),b.out,by omega,rfl⟩
 |ok y=>obtain⟨g,E⟩:=y;obtain⟨q,t,N,o,v,z,S,rfl,j⟩:=i;have a:=z6 j;clear j;go_wp2_with fail;go_ret2;refine⟨d.out.alloc n _,.ok (g,E),b.out,q,B.heap.size,t,N,o,v,z,S,rfl,?_,zk _ _,n,Nat.ne_of_gt (zd a.out.blk),λh=>Nat.lt_irrefl _ (a.out.ted.lt _ h)⟩;exact⟨a.out.ted.below (zc _ _),by rw[zm _ _ (zd a.out.blk)];exact a.out.blk,a.out.dn,a.out.mge,a.out.gr⟩
theorem zff{w:World}{b:Nat}{k j i g f e d c:Value}{t:TypeId}{a:Nat×Nat}(h:w.heap[b]?=S (.cells #[k,j,i,g,f,e,d,c] t a))(u0 u1 u2 u3 u4 u5 u6 u7:Value):((((((((w.setCell ⟨b,0,N⟩ u0).setCell ⟨b,1,N⟩ u1).setCell ⟨b,2,N⟩ u2).setCell ⟨b,3,N⟩ u3).setCell ⟨b,4,N⟩ u4).setCell ⟨b,5,N⟩ u5).setCell ⟨b,6,N⟩ u6).setCell ⟨b,7,N⟩ u7).heap[b]?=S (.cells #[u0,u1,u2,u3,u4,u5,u6,u7] t a):=by have l:(w.setCell ⟨b,0,N⟩ u0).heap[b]?=S (.cells #[u0,j,i,g,f,e,d,c] t a):=zo h u0;have m:((w.setCell ⟨b,0,N⟩ u0).setCell ⟨b,1,N⟩ u1).heap[b]?=S (.cells #[u0,u1,i,g,f,e,d,c] t a):=zo l u1;have n:(((w.setCell ⟨b,0,N⟩ u0).setCell ⟨b,1,N⟩ u1).setCell ⟨b,2,N⟩ u2).heap[b]?=S (.cells #[u0,u1,u2,g,f,e,d,c] t a):=zo m u2;have o:((((w.setCell ⟨b,0,N⟩ u0).setCell ⟨b,1,N⟩ u1).setCell ⟨b,2,N⟩ u2).setCell ⟨b,3,N⟩ u3).heap[b]?=S (.cells #[u0,u1,u2,u3,f,e,d,c] t a):=zo n u3;have p:(((((w.setCell ⟨b,0,N⟩ u0).setCell ⟨b,1,N⟩ u1).setCell ⟨b,2,N⟩ u2).setCell ⟨b,3,N⟩ u3).setCell ⟨b,4,N⟩ u4).heap[b]?=S (.cells #[u0,u1,u2,u3,u4,e,d,c] t a):=zo o u4;have q:((((((w.setCell ⟨b,0,N⟩ u0).setCell ⟨b,1,N⟩ u1).setCell ⟨b,2,N⟩ u2).setCell ⟨b,3,N⟩ u3).setCell ⟨b,4,N⟩ u4).setCell ⟨b,5,N⟩ u5).heap[b]?=S (.cells #[u0,u1,u2,u3,u4,u5,d,c] t a):=zo p u5;have r:(((((((w.setCell ⟨b,0,N⟩ u0).setCell ⟨b,1,N⟩ u1).setCell ⟨b,2,N⟩ u2).setCell ⟨b,3,N⟩ u3).setCell ⟨b,4,N⟩ u4).setCell ⟨b,5,N⟩ u5).setCell ⟨b,6,N⟩ u6).heap[b]?=S (.cells #[u0,u1,u2,u3,u4,u5,u6,c] t a):=zo q u6;have s:((((((((w.setCell ⟨b,0,N⟩ u0).setCell ⟨b,1,N⟩ u1).setCell ⟨b,2,N⟩ u2).setCell ⟨b,3,N⟩ u3).setCell ⟨b,4,N⟩ u4).setCell ⟨b,5,N⟩ u5).setCell ⟨b,6,N⟩ u6).setCell ⟨b,7,N⟩ u7).heap[b]?=S (.cells #[u0,u1,u2,u3,u4,u5,u6,u7] t a):=zo r u7;exact s
theorem zc3{w:World}{a g:Nat}{b:Int}{j:Value}{c:Int}{k:Value}{ok:Bool}(h:w.heap[a]?=S (ZE g b j c k ok)):Calls P 36 #[z9 a] w λe d=>KpM [a] w.heap.size w d/\if b=2 then e=.returned (I J 0)/\d.heap[a]?=S (ZE g 1 (.slice N 0 0) 0 .nilIface false)else e=.returned (I J 11)/\d=w:=by
 have m:=zd h;have i:=z6 (Ke (q:=2) h);have p:=z8 h;have l:=zi h;have n:=za h;have H:=z6 h;clear h;go_enter func36,ntmps36;go_wp2_with fail;refine i.out.mono ?_;rintro _ o⟨rfl,rfl⟩;by_cases f:b=2;·simp only[f,decide_true,if_true];go_wp2_with fail;go_ret;exact⟨((((((((KpM.refl _ _ _).set (List.mem_singleton.mpr rfl) _).set (List.mem_singleton.mpr rfl) _).set (List.mem_singleton.mpr rfl) _).set (List.mem_singleton.mpr rfl) _).set (List.mem_singleton.mpr rfl) _).set (List.mem_singleton.mpr rfl) _).set (List.mem_singleton.mpr rfl) _).set (List.mem_singleton.mpr rfl) _,rfl,zff H.out _ _ _ _ _ _ _ _⟩
 ·simp only[f,decide_false,if_false];go_wp2_with fail;go_ret;exact⟨KpM.refl _ _ _,rfl,rfl⟩
def rdU(b:Nat)(c:Int)(a:Value):Out->Obj
 |none=>ZE b c a 0 .nilIface false
 |some x=>ZE b c a x.1 (ntV x.2) true
theorem zcc(b:Nat)(d:Int)(a:Value)(o:Out):∃c e,rdU b d a o=ZE b d a c e o.isSome:=by
 cases o with
 |none=>exact⟨_,_,rfl⟩|some x=>exact⟨_,_,rfl⟩
theorem zhl{w:World}{a i:Nat}{b:Int}{g:Value}{c:Int}{j:Value}{ok:Bool}(h:w.heap[a]?=S (ZE i b g c j ok))(f:¬b=2):Calls P 34 #[z9 a] w λe k=>e=.returned (.tuple #[.slice N 0 0,I J 11])/\k=w:=by have d:=z6 (Ke (q:=2) h);clear h;go_enter func34,ntmps34;go_wp2_with fail;refine d.out.mono ?_;rintro _ l⟨rfl,rfl⟩;simp only[f,decide_false];go_wp2_with fail;go_ret2;exact⟨rfl,rfl⟩
def U7(o:Out)(w:World)(e:Ending)(b:World):Prop:=match o with|none=>e=.returned (.tuple #[.slice N 0 0,I J 0])/\b=w|some x=>∃a c,e=.returned (.tuple #[.slice a (zY 0 (.use 0 0 x.1 x.2)).length c,I J 0])/\b.ownsRow w.heap.size 60 4 (.slice a (zY 0 (.use 0 0 x.1 x.2)).length c) (zY 0 (.use 0 0 x.1 x.2)).length ((zY 0 (.use 0 0 x.1 x.2)).flatMap ZZ)/\Below w.heap.size w b
theorem zc8{w:World}{s B:Nat}{A:Value}{o:Out}(h:w.heap[s]?=S (rdU B 2 A o))(g:∀x,o=S x->wfN x.2/\szN x.2<=900000):Calls P 34 #[z9 s] w (U7 o w):=by
 cases o with
 |none=>simp only[rdU]at h;have f:=z6 (Ke (q:=2) h);have y:=zd h;have E:=z8 h;clear h g;go_enter func34,ntmps34;go_wp2_with fail;refine f.out.mono ?_;rintro _ D⟨rfl,rfl⟩;simp only[decide_true];go_wp2_with fail;go_ret2;exact⟨rfl,rfl⟩
 |some x=>
  obtain⟨d,m⟩:=x;obtain⟨p,r⟩:=g _ rfl;simp only[rdU]at h;have f:=z6 (Ke (q:=2) h);have y:=zd h;have E:=z8 h;have i:=z6 (zgO w 0 0 d m p r);have z:=QV m;clear h g p r;have k:Hid (∀e b,qy w (zY 0 (.use 0 0 d m)) e b->∃a n c,e=.returned (.slice a n c)/\U7 (S (d,m)) w (.returned (.tuple #[.slice a n c,I J 0])) b):=z6 (by rintro e b⟨a,c,rfl,u,v⟩;exact⟨_,_,_,rfl,a,c,rfl,u,v⟩)
  have j:Hid (Calls P 57 #[.agg #[I J 0,I J 0,I J d,ntV m]] w λe b=>∃a n c,e=.returned (.slice a n c)/\U7 (S (d,m)) w (.returned (.tuple #[.slice a n c,I J 0])) b):=z6 (i.out.mono (λe b h=>k.out e b h));clear i k;generalize U7 (S (d,m)) w=Q at *;generalize ntV m=G at *;go_enter func34,ntmps34;go_wp2_with fail;refine f.out.mono ?_;rintro _ D⟨rfl,rfl⟩;simp only[decide_true];rcases z with rfl|⟨H,K,rfl⟩;all_goals go_wp2_with fail;refine j.out.mono ?_;rintro _ L⟨a,n,F,rfl,l⟩;have t:=z6 l;clear j l;go_wp2_with fail;exact t.out
end
section
open Go.RowKit Go.Lib
attribute [local go_sem ↓] Go.wp_at_zero Go.wp_at_succ
section
variable {P : Program} (w : World)
theorem ziy(l:Nat)(t u k e:TypeId)(i:TypeInfo)(r:P.underlying t=S (.slice e))(x:P.underlying u=S .string)(p:P.info? e=S i)(A:i.zero=S (I .u8 0))(q:i.size=1)(z:i.bytes=1)(v:Value)(n:Nat)(f:List Value)(h:w.ownsRow l e 1 v n f)(s:ByteArray)(R:n+s.size<=1000)(D:l<=w.heap.size):∃c d,(Builtin.append_ #[t,u] k #[v,.string s]).run P w=.ok c d/\d.ownsRow l e 1 c (n+s.size) (f++strCells s)/\w.grownBy d v.ownBlock/\(c.ownBlock=v.ownBlock\/∃a,c.ownBlock=S a/\w.heap.size<=a):=by
 have F:n+s.size<=maxLen:=by unfold maxLen;omega
 rcases h.2 with⟨rfl,rfl⟩|⟨a,m,B,rfl,E,K,W,U,V,X⟩
 ·have G:w.ownsRow w.heap.size e 1 (.slice N 0 0) 0 f:=⟨h.1,.inl ⟨rfl,rfl⟩⟩;obtain⟨c,d,b,o,y,H⟩:=run_append_own_string (P:=P) w w.heap.size t u k e i r x p A q z _ _ f G s F (by omega) (Nat.le_refl _);refine⟨c,d,b,Zn o D,y,?_⟩;rcases o.2 with⟨rfl,_⟩|⟨a,m,B,rfl,E,_⟩;·exact .inl rfl
  ·exact .inr ⟨a,rfl,E⟩
 ·obtain⟨c,d,b,o,y,H⟩:=run_append_own_string (P:=P) w l t u k e i r x p A q z _ _ f h s F (by omega) D;refine⟨c,d,b,o,y,?_⟩;by_cases L:n+s.size<=m;·have:=run_append_room_string (P:=P) w t u k e i r x p q a n m B K s L (by omega);rw[this]at b;simp only[Result.ok.injEq]at b;rw[<-b.1];exact .inl rfl
  ·have J:∀j v,f[j]?=S v->w.cell? ((⟨a,0,N⟩:Addr).add j)=S v:=λj O M=>h.cells (g:=a) rfl j O M;have:=run_append_grow_string (P:=P) w t u k e i _ r x p A ⟨a,0,N⟩ n m f (by rw[q];exact h.1) J s (by omega) (by omega) (growslice_fits (by omega) (by rw[z];omega));rw[this]at b;simp only[Result.ok.injEq]at b;rw[<-b.1];exact .inr ⟨_,rfl,Nat.le_refl _⟩
theorem zjA{j:Array Oper}{k:List Oper}{o:Oper}{a:Act}{Q:Exit->Act->World->Prop}(B:o.guard=N)(l x:Operand)(t u:TypeId)(E:o.op=.call {callee:=.builtin .append,args:=#[l,x],argTypes:=#[t,u]})(d:Nat)(e:TypeId)(i:TypeInfo)(L:P.underlying t=S (.slice e))(M:P.underlying u=S .string)(D:P.info? e=S i)(R:i.zero=S (I .u8 0))(J:i.size=1)(A:i.bytes=1)(v:Value)(n:Nat)(f:List Value)(H:a.eval l=v)(F:w.ownsRow d e 1 v n f)(s:ByteArray)(O:a.eval x=.string s)(y:n+s.size<=1000)(z:d<=w.heap.size)(h:∀b c,c.ownsRow d e 1 b (n+s.size) (f++strCells s)->w.grownBy c v.ownBlock->(b.ownBlock=v.ownBlock\/∃g,b.ownBlock=S g/\w.heap.size<=g)->wpList P j Q k (a.put o.dst b) c):wpList P j Q (o::k) a w:=by refine wpList_plain B λK r=> ?_;obtain⟨b,c,G,m,p,q⟩:=ziy (P:=P) w d t u o.type e i L M D R J A v n f F s y z;unfold Oper.wp execOp;simp only[E,resolve,invoke,builtin,Sem.run_bind,Sem.run_pure,Result.andThen_ok,List.map_toArray,List.map_cons,List.map_nil,H,O,G];exact r _ _ (h b c m p q)
end
theorem zc0{w:World}{B n a o:Nat}{e:TypeId}{k:Nat}{v u:Value}{b:List Value}(h:w.ownsRow B e k v n b)(p:v.ownBlock≠S a):(w.setCell ⟨a,o,N⟩ u).ownsRow B e k v n b:=by
 refine⟨h.1,?_⟩;rcases h.2 with f|⟨g,c,d,rfl,i,j,l⟩;·exact .inl f
 ·refine .inr ⟨g,c,d,rfl,i,?_,l⟩;rw[Below.heap_setCell _ _ _ _ (λm=>p (congrArg S m))];exact j
theorem infoByte:(prog.info? 5).map (λi=>(i.zero,i.size,i.bytes))=S (S (I .u8 0),1,1):=by kernel_rfl
def Kq(f h B:Nat)(j c:Int)(d i:Value)(ok:Bool)(s p:ByteArray)(w:World)(e:Ending)(a:World):Prop:=if j=1 then(if 200<s.size+p.size then e=.returned (I J 9)/\a=w else e=.returned (I J 0)/\∃b,a.heap[f]?=S (ZE h 1 b c i ok)/\a.ownsRow B 5 1 b (s.size+p.size) (strCells s++strCells p)/\GrW w a (λx=>x=f\/d.ownBlock=S x)/\(b.ownBlock=d.ownBlock\/∃g,b.ownBlock=S g/\w.heap.size<=g))else e=.returned (I J 10)/\a=w
theorem zc5{w:World}{d x B:Nat}{z c:Int}{j y:Value}{ok:Bool}{s p:ByteArray}(h:w.heap[d]?=S (ZE x z j c y ok))(hs:s.size<=200)(hp:p.size<=281474976710656)(u:w.ownsRow B 5 1 j s.size (strCells s))(O:B<=w.heap.size)(G:j.ownBlock≠S d):Calls P 33 #[z9 d,.string p] w (Kq d x B z c j y ok s p w):=by
 have D:=z6 (Ke (q:=1) h);have W:=zd h;have z0:=z8 h;have H:=z6 h;have L:=z6 u;have R:∃a m,j=.slice a s.size m:=by
  rcases u.2 with⟨rfl,o⟩|⟨g,M,N,rfl,_⟩;·exact⟨_,_,by rw[o]⟩
  ·exact⟨_,_,rfl⟩
 obtain⟨a,m,rfl⟩:=R;clear h u;go_enter func33,ntmps33;go_wp2_with fail;refine D.out.mono ?_;rintro _ w1⟨rfl,rfl⟩;clear D;by_cases v:z=1
 ·subst v;simp only[decide_true];by_cases E:200<s.size+p.size
  ·have X:(200:Int)<(s.size:Int)+(p.size:Int):=by omega
   go_wp2_with fail;go_ret;unfold Kq;rw[if_pos rfl,if_pos E];exact⟨rfl,rfl⟩
  ·have X:¬(200:Int)<(s.size:Int)+(p.size:Int):=by omega
   obtain⟨i0,U,Z,a0,a1⟩:=info_parts infoByte;go_wp2_with(first|(at_builtin;refine zjA _ rfl _ _ 117 9 rfl B 5 i0 underlying117 underlying9 U Z a0 a1 _ _ _ rfl L.out p rfl (by omega) O ?_));intro v' w2 r t e;obtain⟨l,n,rfl⟩:∃l n,v'=.slice l (s.size+p.size) n:=by
    rcases r.2 with⟨rfl,o⟩|⟨g,M,N,rfl,_⟩;·exact⟨_,_,by rw[o]⟩
    ·exact⟨_,_,rfl⟩
   have i:w2.heap[d]?=S (ZE x 1 (.slice a s.size m) c y ok):=by rw[t.block d W (λb=>G b.symm)];exact H.out
   have y1:=z8 i;have y2:=zi i;have y3:=za i;have K:=z6 i;have J:=z6 r;have f:=z6 t;have A:=z6 e;clear r t e i;go_wp2_with fail;go_ret;unfold Kq;rw[if_pos rfl,if_neg E];have Y:(Value.slice l (s.size+p.size) n).ownBlock≠S d:=by
    rcases A.out with e|⟨g,e,h5⟩;·rw[e];exact G
    ·rw[e];intro b;cases b;omega
   refine⟨rfl,_,zo K.out _,zc0 J.out Y,⟨f.out.os,f.out.tape,f.out.output,by simpa[World.setCell]using f.out.size,λk V F=> ?_⟩,A.out⟩;rw[Below.heap_setCell _ _ _ _ (λb=>F (.inl b)),f.out.block k V (λb=>F (.inr b.symm))]
 ·simp only[v,decide_false];go_wp2_with fail;go_ret;unfold Kq;rw[if_neg v];exact⟨rfl,rfl⟩
end
end Go.Proofs.YtiganlkabilblaaGreatDoor
