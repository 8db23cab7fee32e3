import Derived.Test.YtiganlkabilblaaGreatDoorV03
import Derived.Test.YtiganlkabilblaaGreatDoorV00
import Derived.Maps.Own
import Derived.Maps.OwnOps
import Derived.Maps.OwnSet
import Derived.Maps.Views
set_option linter.all false
set_option maxHeartbeats 64000000
set_option maxRecDepth 100000
namespace Go.Proofs.YtiganlkabilblaaGreatDoor
open Tryz
open Tryz renaming prog->P
open Option renaming some->S,none->N
open Value renaming int->I
open IntKind renaming i64->J
section
open Go.RowKit
theorem zit(w:World)(i y z:Nat)(d:List (Tok×Value))(m f:Nat)(h:Rd w i y z d f 0)(o:QE d)(r:f<d.length)(hm:m<=20)(hk:d[f].1.kind=.name):Calls P 123 #[.pointer (S ⟨i,0,N⟩),I J m] w λe w'=>qC w i y z d m f e w':=by
 have aO:=h.lt;have hl:=h.2.2.1;have aD:Hid (d[f].1.text.length<=2000):=h.2.2.2 d[f] (List.getElem_mem r);have a8:=qR (w.alloc Jr) i y z d f 0 (h.below (zc _ _)) r 2 (by rw[hk];rfl);have x:f+1<d.length:=(o f r).2 (by rw[hk];rfl);have aI:=(o (f+1) x).1;obtain⟨a0,b0,e0⟩:=zl (h.2.1.2 d[f] (List.getElem_mem r));obtain⟨a1,b1,e1⟩:=zl (h.2.1.2 d[f+1] (List.getElem_mem x));simp only[zP,e0]at a8;have Z:Hid (d[f].1.kind=.name):=hk;have E1:Hid (d[f+1].2=.slice a1 d[f+1].1.spans.length b1):=e1;clear e0 h hk e1;go_enter func123,ntmps123;go_wp2_with fail;refine a8.mono ?_;rintro e j⟨rfl,a6,a3⟩;have aJ:=a3.size;simp at aJ;have ab:j.heap[w.heap.size]?=S Jr:=by rw[VB a3 (by simp) (by omega)];exact zk _ _
 have am:w.heap.size<j.heap.size:=by omega
 have ay:Hid (Kp i w.heap.size w j):=(Kp.of (zc _ _)).trans (a3.mono (by simp));obtain⟨O,hO⟩:∃O:Obj,O=.cells #[I .u8 (zt d[f].1.kind),I J ↑d[f].1.place,.string ⟨List.toArray d[f].1.text⟩,.slice a0 d[f].1.spans.length b0] 237:=⟨_,rfl⟩;have H:Rd (j.alloc O) i y z d (f+1) 0:=a6.below (zc _ _);have ar:(j.alloc O).heap[w.heap.size]?=S Jr:=by rw[zm _ _ am];exact ab
 have B:=JA (j.alloc O) i y z d (f+1) 0 H x _ rfl;have ad:=λq=>UU ((j.alloc O).drewN q) i y z d (f+1) 0 H x 4;have X:=λq (t:zt d[f+1].1.kind=3)=>qR ((j.alloc O).drewN q) i y z d (f+1) 0 H x 3 t;have W:=λq (t:zt d[f+1].1.kind≠3)=>qQ ((j.alloc O).drewN q) i y z d (f+1) 0 H x 3 t;simp only[zP,E1.out]at X W;have H1:Hid (Rd (j.alloc O) i y z d (f+1) 0):=H;have L:Hid ((j.alloc O).heap[w.heap.size]?=S Jr):=ar;have HW:Hid (Kp i w.heap.size w (j.alloc O)):=ay.out.alloc (by omega) O;have av:(j.alloc O).heap.size=j.heap.size+1:=by simp
 have aa:(j.alloc O).cell? ⟨j.heap.size,2,N⟩=S (.string ⟨List.toArray d[f].1.text⟩):=by rw[hO];simp
 have aL:Hid (Rd j i y z d (f+1) 0):=a6;have ag:Hid (j.heap[w.heap.size]?=S Jr):=ab;subst hO;clear a8 a6 a3 ab H ar;have q1:=z8 L.out;have f1:=zi L.out;rcases zfC aI with⟨A,D⟩|⟨A,D⟩
 ·by_cases a9:m=20
  ·subst a9;rw[D]at B;have G:Hid (d[f+1].1.kind=.arrow):=A;clear A X W;go_wp2_with(first|(go_at_call 124;refine B.mono ?_;rintro e w2⟨rfl,q,rfl⟩)|(go_at_call 162;refine(ad _).mono ?_;rintro e k⟨rfl,q2,rfl⟩));refine bodyPost_ret (v:=.tuple #[.agg #[.string ⟨#[]⟩,.slice N 0 0],zS 4 d[f+1].1.place]) (by simp[results,results123,go_sem,zS,q1,am,ag.out,z8 ag.out]) rfl ?_;refine⟨.err 4 d[f+1].1.place,?_,?_,_,rfl,f+1,?_⟩;·rw[<-Z0 x, <-Qy r];exact .many (by rw[Z0 r];exact Z.out) (by rw[Qy r,Z0 x];exact G.out)
   ·exact((HW.out.drewN _).setCell (Nat.le_refl _) _).setCell (Nat.le_refl _) _
   ·refine(H1.out.drewN (q+q2)).other (b:=w.heap.size) (λg o _=> ?_) L.out (by decide) (by decide) (by decide);rw[Below.heap_setCell _ _ _ _ o,Below.heap_setCell _ _ _ _ o]
  ·have tm:((m:Int)==20)=false:=beq_eq_false_iff_ne.2 (by omega);rw[D]at B;have G:Hid (d[f+1].1.kind=.arrow):=A;have al:=λq=>X q D;have aH:f+1+1<d.length:=(o (f+1) x).2 (by rw[A];rfl);clear A X W ad;go_wp2_with(first|(go_at_call 124;refine B.mono ?_;rintro e w2⟨rfl,q,rfl⟩));refine(al q).mono ?_;rintro e k⟨rfl,U,t⟩;have ae:=t.size;simp only[World.heap_drewN,av]at ae;have E:k.heap[w.heap.size]?=S Jr:=by rw[VB t (by simp;omega) (by omega)];exact L.out
   have ai:Kp i w.heap.size w k:=(HW.out.drewN q).trans (t.mono (by simp;omega));have ao:k.cell? ⟨j.heap.size,2,N⟩=S (.string ⟨List.toArray d[f].1.text⟩):=by rw[JS t (by simp) (by omega)];exact aa
   obtain⟨M,aE⟩:∃O:Obj,O=.cells #[I .u8 3,I J ↑d[f+1].1.place,.string ⟨List.toArray d[f+1].1.text⟩,.slice a1 d[f+1].1.spans.length b1] 237:=⟨_,rfl⟩;have aj:=zel i y z d o d.length (k.alloc M) (f+1+1) 0 (U.below (zc _ _)) aH (by omega) (by omega);have Y:(k.alloc M).heap.size=k.heap.size+1:=by simp
   have au:(k.alloc M).heap[w.heap.size]?=S Jr:=by rw[zm _ _ (by omega)];exact E
   have ap:(k.alloc M).cell? ⟨j.heap.size,2,N⟩=S (.string ⟨List.toArray d[f].1.text⟩):=by rw[World.cell?_alloc_lt _ _ _ (by simp only[];omega)];exact ao
   have aA:Hid (Kp i w.heap.size w (k.alloc M)):=ai.alloc (by omega) _;subst aE;clear U t E ao ai B al q1 f1 aa;go_wp2_with fail;refine aj.mono ?_;rintro e s⟨ax,hP,R,hE⟩;have aK:=R.size;rw[Y]at aK;have a4:s.heap[w.heap.size]?=S Jr:=by rw[VB R (by rw[Y];omega) (by omega)];exact au
   have aN:s.cell? ⟨j.heap.size,2,N⟩=S (.string ⟨List.toArray d[f].1.text⟩):=by rw[JS R (by rw[Y];omega) (by omega)];exact ap
   have af:Hid (Kp i w.heap.size w s):=aA.out.trans (R.mono (by rw[Y];omega));have HP:Hid (Z8 0 (zu d (f+1+1)) ax):=hP;have a5:Hid (s.heap[w.heap.size]?=S Jr):=a4;have q5:=z8 a4;have f5:=zi a4;have an:w.heap.size<s.heap.size:=by omega
   have aq:∀u1 u2 g,g≠w.heap.size->g<s.heap.size->((s.setCell ⟨w.heap.size,0,N⟩ u1).setCell ⟨w.heap.size,1,N⟩ u2).heap[g]?=s.heap[g]?:=by intro u1 u2 g o _;rw[Below.heap_setCell _ _ _ _ o,Below.heap_setCell _ _ _ _ o]
   have a2:Hid (∀u1 u2 g,g≠w.heap.size->g<s.heap.size->((s.setCell ⟨w.heap.size,0,N⟩ u1).setCell ⟨w.heap.size,1,N⟩ u2).heap[g]?=s.heap[g]?):=aq;clear aj R a4 hP aq ap au;have aw:(zu d f).tail.tail=zu d (f+1+1):=by rw[Qy r,Qy x]
   have ah:Hid ((zu d f).tail.tail=zu d (f+1+1)):=aw;clear aw;cases ax with
   |err er p=>
    obtain⟨rfl,F,V⟩:=hE;simp only[zS];have H5:Hid (Rd s i y z d F 0):=V;clear V;go_wp2_with fail;refine bodyPost_ret (v:=.tuple #[.agg #[.string ⟨List.toArray d[f].1.text⟩,.slice N 0 0],zS er p]) (by simp[results,results123,go_sem,zS,q5,an]) rfl ?_;refine⟨.err er p,?_,?_,_,rfl,F,?_⟩;·exact .err (by rw[Z0 r];exact Z.out) (by rw[Qy r,Z0 x];exact G.out) a9 (by rw[ah.out];exact HP.out)
    ·exact(af.out.setCell (Nat.le_refl _) _).setCell (Nat.le_refl _) _
    ·exact H5.out.other (b:=w.heap.size) (a2.out _ _) a5.out (by decide) (by decide) (by decide)
   |ok c aP=>
    obtain⟨F,a,l,cp,rfl,aM,aG,rfl,a7,V⟩:=hE;have H5:Hid (Rd s i y z d F 0):=V;rw[Y]at a7;have aC:Hid (Zt s (k.heap.size+1<= ·) c (.slice a l cp)):=a7;clear V a7;go_wp2_with fail;refine bodyPost_ret (v:=.tuple #[.agg #[.string ⟨List.toArray d[f].1.text⟩,.slice a l cp],.nilIface]) (by simp[results,results123,go_sem,q5,an]) rfl ?_;refine⟨.ok ⟨d[f].1.text,c⟩ (zu d F),?_,?_,F,a,l,cp,rfl,by omega,aG,rfl,?_,?_,aD.out⟩;·have:=ZV.ok (n:=m) (ts:=zu d f) (c:=c) (rest:=zu d F) (by rw[Z0 r];exact Z.out) (by rw[Qy r,Z0 x];exact G.out) a9 (by rw[ah.out];exact HP.out);rw[Z0 r]at this;exact this
    ·exact(af.out.setCell (Nat.le_refl _) _).setCell (Nat.le_refl _) _
    ·have hs:Sm (k.heap.size+1<= ·) s ((s.setCell ⟨w.heap.size,0,N⟩ (.string ⟨List.toArray d[f].1.text⟩)).setCell ⟨w.heap.size,1,N⟩ (.slice a l cp)):=⟨λu l hl=>VL hl (a2.out _ _) a5.out (by decide),λg o ha=>a2.out _ _ g (by omega) o⟩;exact(aC.out.kept hs).mono (λg _ o=>by omega)
    ·exact H5.out.other (b:=w.heap.size) (a2.out _ _) a5.out (by decide) (by decide) (by decide)
 ·have G:Hid (d[f+1].1.kind≠.arrow):=A;have tk:(zt d[f+1].1.kind==3)=false:=beq_eq_false_iff_ne.2 D;have ak:=λq=>W q D;clear A X W ad D;generalize zt d[f+1].1.kind=K at *;go_wp2_with(first|(go_at_call 124;refine B.mono ?_;rintro e w2⟨rfl,q,rfl⟩));refine(ak q).mono ?_;rintro e k⟨rfl,U,t⟩;have ae:=t.size;simp only[World.heap_drewN,av]at ae;have E:k.heap[w.heap.size]?=S Jr:=by rw[VB t (by simp;omega) (by omega)];exact L.out
  have az:Hid (Kp i w.heap.size w k):=(HW.out.drewN q).trans (t.mono (by simp;omega));have H3:Hid (Rd k i y z d (f+1) 0):=U;have aB:Hid (k.heap[w.heap.size]?=S Jr):=E;have q3:=z8 E;have f3:=zi E;have aF:w.heap.size<k.heap.size:=by omega
  clear U t E B ak q1 f1 aa;go_wp2_with fail;refine bodyPost_ret (v:=.tuple #[.agg #[.string ⟨#[]⟩,.slice N 0 0],zS 2 d[f+1].1.place]) (by simp[results,results123,go_sem,zS,q3,aF]) rfl ?_;refine⟨.err 2 d[f+1].1.place,?_,?_,_,rfl,f+1,?_⟩;·rw[<-Z0 x, <-Qy r];exact .noArrow (by rw[Z0 r];exact Z.out) (by rw[Qy r,Z0 x];exact G.out)
  ·exact((az.out.setCell (Nat.le_refl _) _).setCell (Nat.le_refl _) _).alloc (by simp;omega) _
  ·refine(H3.out.other (b:=w.heap.size) (λg o _=> ?_) aB.out (by decide) (by decide) (by decide)).below (zc _ _);rw[Below.heap_setCell _ _ _ _ o,Below.heap_setCell _ _ _ _ o]
theorem ziq(w:World)(b c d:Nat)(a:List (Tok×Value))(m n:Nat)(h:Rd w b c d a n 0)(i:QE a)(g:n<a.length)(k:m<=20):Calls P 123 #[.pointer (S ⟨b,0,N⟩),I J m] w λe l=>qC w b c d a m n e l:=by
 rcases zfG (i n g).1 with⟨f,_⟩|⟨f,j⟩;·exact zit w b c d a m n h i g k f
 ·exact ziu w b c d a m n h g f j
def J0:List ze->List Value->List Value
 |r::g,v::a=>.string ⟨r.name.toArray⟩::v::J0 g a
 |_,_=>[]
def zW(w:World)(A:Nat->Prop):List ze->List Value->Prop
 |[],a=>a=[]
 |r::g,a=>∃v b,a=v::b/\(Zt w A r.choice v/\r.name.length<=2000)/\zW w A g b
theorem zW.kept{w w':World}{A:Nat->Prop}(h:Sm A w w'):∀{g:List ze} {c:List Value},zW w A g c->zW w' A g c
 |[],_,a=>a
 |_::_,_,⟨v,e,d,b,a⟩=>⟨v,e,d,⟨b.1.kept h,b.2⟩,zW.kept h a⟩
theorem zW.mono{w:World}{A A':Nat->Prop}(h:∀g,g<w.heap.size->A g->A' g):∀{g:List ze} {c:List Value},zW w A g c->zW w A' g c
 |[],_,a=>a
 |_::_,_,⟨v,e,d,b,a⟩=>⟨v,e,d,⟨b.1.mono h,b.2⟩,zW.mono h a⟩
theorem zW.length{w:World}{A:Nat->Prop}:∀{g:List ze} {b:List Value},zW w A g b->g.length=b.length
 |[],_,a=>by simp only[zW]at a;subst a;rfl
 |_::_,_,⟨v,e,c,d,a⟩=>by subst c;simp[zW.length a]
theorem zW.snoc{w:World}{A:Nat->Prop}{r:ze}{v:Value}(b:Zt w A r.choice v/\r.name.length<=2000):∀{g:List ze} {c:List Value},zW w A g c->zW w A (g++[r]) (c++[v])
 |[],_,a=>by simp only[zW]at a;subst a;exact⟨v,[],rfl,b,rfl⟩
 |_::_,_,⟨f,h,e,d,a⟩=>by subst e;exact⟨f,h++[v],rfl,d,zW.snoc b a⟩
theorem zio(g:List ze)(a:List Value)(h:g.length=a.length)(r:ze)(v:Value):J0 (g++[r]) (a++[v])=J0 g a++[.string ⟨r.name.toArray⟩,v]:=by
 induction g generalizing a with
 |nil=>cases a with|nil=>rfl|cons _ _=>simp at h
 |cons t s b=>cases a with|nil=>simp at h|cons u a=>simp only[List.cons_append,J0];rw[b a (by simpa using h)]
def Zj(w:World)(A:Nat->Prop)(g:List ze)(v:Value):Prop:=∃a,Row w A 142 2 v g.length (J0 g a)/\zW w A g a
def zaj(g:List ze):Except (Nat×Nat) (List ze)->Except (Nat×Nat) (List ze)
 | .ok a=>.ok (g++a)
 | .error x=>.error x
def zdt(w:World)(h:Nat)(i:List Tok)(e:Ending)(d:World):Prop:=∃c,ZU 0 i c/\Kp h w.heap.size w d/\match c with| .ok g=>g≠[]/\g.length<=20/\∃a b,e=.returned (.tuple #[.slice (S a) g.length b,.nilIface])/\Zj d (w.heap.size<= ·) g (.slice (S a) g.length b)| .error (f,p)=>e=.returned (.tuple #[.slice N 0 0,zS f p])
structure V8(w:World)(rb tb tc:Nat)(ps:List (Tok×Value))(n k:Nat)(g:List ze)(vs:List Value)(v:Value)(wr:World):Prop where
 lt:k<ps.length
 len:g.length<=20
 own:wr.ownsRow w.heap.size 142 2 v g.length (J0 g vs)
 rules:zW wr (λb=>w.heap.size<=b/\some b≠v.ownBlock) g vs
 rd:Rd wr rb tb tc ps k 0
 kp:Kp rb w.heap.size w wr
 goes:∀r,ZU g.length (zu ps k) r->ZU 0 (zu ps n) (zaj g r)
theorem V8.push{w:World}{i y z:Nat}{u:List (Tok×Value)}{n k:Nat}{g:List ze}{f:List Value}{v:Value}{wr:World}(h:V8 w i y z u n k g f v wr)(W:i<w.heap.size){r:ze}{x:Value}{G:Nat}{c d:World}{j:Value}{B D:Obj}(o:Kp i wr.heap.size wr c)(J:Zt c (wr.heap.size<= ·) r.choice x)(O:r.name.length<=2000)(K:Rd c i y z u G 0)(R:d.ownsRow w.heap.size 142 2 j (g.length+1) (J0 g f++[.string ⟨r.name.toArray⟩,x]))(a:((c.alloc B).alloc D).grownBy d v.ownBlock)(L:j.ownBlock=v.ownBlock\/j.ownBlock=S (c.heap.size+1+1)):d.ownsRow w.heap.size 142 2 j (g++[r]).length (J0 (g++[r]) (f++[x]))/\zW d (λb=>w.heap.size<=b/\S b≠j.ownBlock) (g++[r]) (f++[x])/\Rd d i y z u G 0/\Kp i w.heap.size w d:=by
 have X:=o.size;have U:=h.kp.size;have q:c.ownsRow w.heap.size 142 2 v g.length (J0 g f):=JT h.own h.rd.1 (by decide) o;have p:=zbF a;have N:=a.size;simp at N;have F:∀g,v.ownBlock=S g->g<wr.heap.size:=λg a=>(h.own.lt g a).2;have E:∀g,g<c.heap.size->w.heap.size<=g->S g≠v.ownBlock->(w.heap.size<=g/\S g≠j.ownBlock):=by
  intro g m l H;refine⟨l,?_⟩;rcases L with e|e<;>rw[e];·exact H
  ·simp;omega
 refine⟨by rw[zio _ _ (zW.length h.rules)];simpa using R,?_,?_,?_⟩
 ·refine zW.snoc ⟨?_,O⟩ ?_;·have s:Zt c (λg=>wr.heap.size<=g/\g<c.heap.size) r.choice x:=J.mono (λg m l=>⟨l,m⟩);have t:Zt d (λg=>wr.heap.size<=g/\g<c.heap.size) r.choice x:=s.kept (KX q p (by decide) (λg a e=>by have:=F g e.symm;omega));exact t.mono (λg _ a=>E g a.2 (by omega) (λe=>by have:=F g e.symm;omega))
  ·have V:=zW.kept (KY (A:=λg=>w.heap.size<=g/\S g≠v.ownBlock) h.rd.1 o (λg a=>by omega)) h.rules;have s:zW c (λg=>(w.heap.size<=g/\S g≠v.ownBlock)/\g<c.heap.size) g f:=zW.mono (λg m l=>⟨l,m⟩) V;have t:zW d (λg=>(w.heap.size<=g/\S g≠v.ownBlock)/\g<c.heap.size) g f:=zW.kept (KX q p (by decide) (λg a=>a.1.2)) s;exact zW.mono (λg _ a=>E g a.2 a.1.1 a.1.2) t
 ·exact K.but q p (by decide) (by decide) (by decide)
 ·exact((((h.kp.trans (o.mono U))).alloc (by omega) B).alloc (by simp;omega) D).grown a (by simp;omega) (λg M=>(h.own.lt g M).1)
theorem infoRule:(prog.info? 142).map (λi=>(i.zero,i.size,i.bytes))=S (S (.agg #[.string ⟨#[]⟩,.slice N 0 0]),2,40):=by kernel_rfl
theorem zfE{k:TK}(a:Qm k):(k=.fin/\zt k=0)\/(k≠.fin/\(zt k==0)=false):=by
 cases k with
 |fin=>left;exact⟨rfl,rfl⟩|sign c=>right;have:=KW a;refine⟨by simp,beq_eq_false_iff_ne.2 ?_⟩;simp only[zt];omega|_=>right;simp[zt]
theorem zdy{m:Nat}{b a:List Tok}{r:ze}(h:ZV m b (.ok r a)):m≠20:=by cases h;assumption
theorem zf7(i:World)(f o s:Nat)(d:List (Tok×Value))(n:Nat)(h:Rd i f o s d n 0)(V:QE d)(hn:n<d.length):Calls P 86 #[.pointer (S ⟨f,0,N⟩)] i λe w'=>zdt i f (zu d n) e w':=by
 obtain⟨i0,hi,aj,ak,al⟩:=info_parts infoRule;have ag:=h.lt;have hl:=h.2.2.1;have H:Hid (Rd i f o s d n 0):=h;clear h;go_enter func86,ntmps86;go_wp2_with fail;go_loopg[4] (d.length-n) (λm v wr=>∃k g t,m=d.length-k/\V8 i f o s d n k g t v wr);case atStart=>refine⟨n,[],[],rfl,hn,by simp,World.ownsRow_nil _ _ _ _,by simp[zW],H.out,Kp.refl _ _ _,?_⟩;intro r hr;cases r<;>exact hr
 case round=>
  obtain⟨k,g,t,rfl,A⟩:=hrel;have hs:=ziq wr f o s d g.length k A.rd V A.lt A.len;have aq:=A.lt;have ap:=A.len;have ai:=A.kp.size;have W:=A.own;obtain⟨ab,ad,hv⟩:=zl W;subst hv;have F:Hid (V8 i f o s d n k g t (.slice ab g.length ad) wr):=A;clear A;go_wp2_with fail;refine hs.mono ?_;rintro e J⟨aa,hP,a0,hE⟩;have au:=a0.size;have R:Hid (ZV g.length (zu d k) aa):=hP;have X:Hid (Kp f wr.heap.size wr J):=a0;clear hs hP a0;cases aa with
  |err er p=>obtain⟨z,rfl,n',U⟩:=hE;simp only[zS];clear U W;go_wp2_with fail;go_ret2;exact⟨.error (er,p),F.out.goes _ (.err R.out),(F.out.kp.trans (X.out.mono ai)).alloc (by omega) _,rfl⟩
  |ok r av=>
   obtain⟨j,B,E,D,rfl,ar,G,rfl,a4,U,a7⟩:=hE;have ae:Hid (r.name.length<=2000):=a7;clear a7;have ao:=zdy R.out;have af:Hid (Zt J (wr.heap.size<= ·) r.choice (.slice B E D)):=a4;have H1:Hid (Rd J f o s d j 0):=U;have a9:J.ownsRow i.heap.size 142 2 (.slice ab g.length ad) g.length (J0 g t):=JT W F.out.rd.1 (by decide) X.out;clear a4 U W;go_wp2_with(first|(at_builtin;refine wpList_append_own_at _ rfl _ _ 72 rfl (i.heap.size) 142 i0 _ 2 40 underlying72 hi aj ak al rfl (by decide) _ _ _ rfl ((a9.alloc _).alloc _) ⟨J.heap.size+1,0,N⟩ 1 1 [.string ⟨r.name.toArray⟩,.slice B E D] rfl rfl ?c1 ?c2 ?c3 ?c4 ?c5 ?_));case c1=>rw[<-World.size_alloc J (.cells #[.string ⟨r.name.toArray⟩,.slice B E D] 142)];exact KC _ _ _ _
   case c2=>intro u hu;simp at hu;rcases hu with rfl|rfl<;>rfl
   case c3=>unfold maxLen;omega
   case c4=>omega
   case c5=>simp;omega
   intro v' l a3 a6 a8 a5;obtain⟨p1,p2,p3,p4⟩:=F.out.push ag X.out af.out ae.out H1.out a3 a6 a5;have ah:∃a c,v'=.slice (S a) (g.length+1) c:=by
    rcases a3.2 with⟨h,_⟩|⟨g',am,an,h,_⟩;·exact absurd h a8
    ·exact⟨_,_,h⟩
   obtain⟨M,O,rfl⟩:=ah;have Z:Hid (l.ownsRow i.heap.size 142 2 (.slice (S M) (g.length+1) O) (g++[r]).length (J0 (g++[r]) (t++[.slice B E D]))):=p1;have P2:Hid (zW l (λb=>i.heap.size<=b/\S b≠(Value.slice (S M) (g.length+1) O).ownBlock) (g++[r]) (t++[.slice B E D])):=p2;have P3:Hid (Rd l f o s d j 0):=p3;have P4:Hid (Kp f i.heap.size i l):=p4;clear a3 a6 a5 a9 p1 p2 p3 p4 a8;rcases zfE (V j G).1 with⟨L,a2⟩|⟨L,a2⟩
   ·have a1:=JA l f o s d j 0 P3.out G 0 a2;have Y:Hid (d[j].1.kind=.fin):=L;clear L a2;go_wp2_with(first|(go_at_call 124;refine a1.mono ?_;rintro e w6⟨rfl,q,rfl⟩));go_ret2;have hp:=F.out.goes _ (.last R.out (by rw[Z0 G];exact Y.out));refine⟨.ok (g++[r]),hp,P4.out.drewN q,by simp,by simp;omega,M,O,by simp,⟨t++[.slice B E D],⟨?_,?_⟩,?_⟩⟩
    ·have h1:l.ownsRow 0 142 2 (.slice (S M) (g++[r]).length O) (g++[r]).length (J0 (g++[r]) (t++[.slice B E D])):=by have:=Zn Z.out (Nat.zero_le _);simpa using this
     exact h1
    ·intro b hb;exact(Z.out.lt b (by simpa using hb)).1
    ·have h1:zW l (i.heap.size<= ·) (g++[r]) (t++[.slice B E D]):=zW.mono (λg _ V=>V.1) P2.out;exact zW.kept (w:=l) (w':=l.drewN q) ⟨λ_ _ h=>h,λ_ _ _=>rfl⟩ h1
   ·have a1:=JA l f o s d j 0 P3.out G _ rfl;have Y:Hid (d[j].1.kind≠.fin):=L;clear L;generalize zt d[j].1.kind=K at *;go_wp2_with(first|(go_at_call 124;refine a1.mono ?_;rintro e w6⟨rfl,q,rfl⟩));have hN:V8 i f o s d n j (g++[r]) (t++[.slice B E D]) (.slice (S M) (g.length+1) O) (l.drewN q):=by
     refine⟨G,by simp;omega,Z.out,zW.kept (w:=l) (w':=l.drewN q) ⟨λ_ _ h=>h,λ_ _ _=>rfl⟩ P2.out,P3.out.drewN q,P4.out.drewN q,?_⟩;intro x hx;have hm:ZV g.length (zu d k) (.ok r (zu d j)):=R.out;have hf:(hd (zu d j)).kind≠.fin:=by rw[Z0 G];exact Y.out
     simp only[List.length_append,List.length_cons,List.length_nil]at hx;cases x with
     |ok g'=>exact(by simpa[zaj]using F.out.goes _ (.more hm hf hx))|error y=>exact(by simpa[zaj]using F.out.goes _ (.later hm hf hx))
    go_roundg (d.length-j);case measure=>omega
    case rel=>exact⟨j,_,_,rfl,hN⟩
theorem zdF(N:Nat):∀(a:Nat) (l:List UInt8),l.length<=N->(TL a l).length<=l.length+1/\TL a l≠[]/\∀i (h:i<(TL a l).length),Qm (TL a l)[i].kind/\((TL a l)[i].kind.last=false->i+1<(TL a l).length):=by
 induction N with
 |zero=>intro a l j;have:l=[]:=List.length_eq_zero_iff.1 (by omega);subst this;refine⟨by rw[show TL a []=[⟨.fin,a,0,[],[]⟩]from rfl];simp,by rw[K9];simp,?_⟩;intro i h;have e:TL a []=[⟨.fin,a,0,[],[]⟩]:=rfl;simp only[e]at h|-;simp at h;subst h;simp[Qm,TK.last]
 |succ N m=>
  intro a l j;rw[K9];have d:Qm (zG a l).kind:=qa _;cases c:(zG a l).kind.last with
  |true=>simp only[if_true];refine⟨by simp,by simp,?_⟩;intro i h;simp at h;subst h;simp only[List.getElem_cons_zero];exact⟨d,λb=>by rw[c]at b;cases b⟩
  |false=>
   have k:=Kl (l.drop (blk false l)) c;have o:=Kb false l;rw[List.length_drop]at k;have hd:(l.drop (blk false l+(zG a l).size)).length=l.length-(blk false l+(zG a l).size):=List.length_drop;have e:(zG a l).size=(zM (l.drop (blk false l))).size:=rfl;simp only[Bool.false_eq_true,if_false];obtain⟨n,f,g⟩:=m ((zG a l).place+(zG a l).size) (l.drop (blk false l+(zG a l).size)) (by omega);generalize TL ((zG a l).place+(zG a l).size) (l.drop (blk false l+(zG a l).size))=L at *;refine⟨by simp;omega,by simp,?_⟩;intro i h;cases i with
   |zero=>
    simp only[List.getElem_cons_zero];refine⟨d,λ_=> ?_⟩;cases L with
    |nil=>exact absurd rfl f|cons _ _=>simp
   |succ i=>simp only[List.getElem_cons_succ];have:=g i (by simpa using h);exact⟨this.1,λb=>by have:=this.2 b;simp;omega⟩
theorem zei(m l:List UInt8):(Qc m l).1.length<=l.length:=by have:=zeh m l;omega
theorem zjc(l:List UInt8):(zM l).text.length<=l.length:=by
 cases l with
 |nil=>simp[zM]
 |cons c t=>
  simp only[zM];split
  ·unfold Ql;split;·simp[zB]
   ·simp only[List.length_take];omega
  ·split;·simp
   ·split
    ·unfold Qv;split;·have:=zei [39] t;simp only[List.length_cons];omega
     ·simp[zB]
    ·split;·unfold QB;split<;>simp[zB]
     ·split<;>simp[zB]
theorem zde:∀(f a:Nat) (l:List UInt8),∀t∈QC f a l,t.text.length<=l.length
 |0,_,_,t,h=>by simp[QC]at h
 |f+1,a,l,t,h=>by
  rw[qe]at h;have b:=Kb false l;rcases List.mem_cons.1 h with rfl|h;·have:=zjc (l.drop (blk false l));rw[List.length_drop]at this;show(zM (l.drop (blk false l))).text.length<=_;omega
  ·split at h;·cases h
   ·have:=zde f _ _ t h;rw[List.length_drop]at this;omega
theorem zje(l:List UInt8):∀t∈Qn l,t.text.length<=l.length:=zde _ _ _
theorem zf4{l:List UInt8}{a:List (Tok×Value)}(h:a.map (·.1)=Qn l):QE a/\0<a.length/\a.length<=l.length+1:=by
 obtain⟨b,d,c⟩:=zdF l.length 0 l (Nat.le_refl _);rw[<-YZ, <-h]at b d c;simp only[List.length_map]at b c;refine⟨?_,?_,b⟩;·intro i e;have:=c i e;simpa using this
 ·cases a with
  |nil=>simp at d|cons _ _=>simp
inductive Zs(l:List UInt8):Except (Nat×Nat) (List ze)->Prop
 |long:2000<l.length->Zs l (.error (1,0))
 |read {res}:l.length<=2000->ZU 0 (Qn l) res->Zs l res
def zdB(l:List UInt8)(w:World)(e:Ending)(d:World):Prop:=∃c,Zs l c/\Below w.heap.size w d/\match c with| .ok g=>g≠[]/\g.length<=20/\∃a b,e=.returned (.tuple #[.slice (S a) g.length b,.nilIface])/\Zj d (w.heap.size<= ·) g (.slice (S a) g.length b)| .error (f,p)=>e=.returned (.tuple #[.slice N 0 0,zS f p])
theorem Kp.below{a B:Nat}{w w':World}(h:Kp a B w w')(c:B<=a):Below B w w':=⟨h.os,h.tape,h.output,h.size,λk b=>h.block k b (by omega)⟩
theorem zhD(s:ByteArray)(w:World)(hs:s.size<=maxLen):Calls P 61 #[.string s] w λe w'=>zdB s.data.toList w e w':=by
 unfold maxLen at hs;have a2:s.data.toList.length=s.size:=rfl;by_cases hl:2000<s.size
 ·have a1:(2000:Int)<s.size:=by omega
  go_enter func61,ntmps61;go_wp2_with fail;go_ret2;exact⟨.error (1,0),.long (by rw[a2];exact hl),Below.refl _ _,rfl⟩
 ·have a1:¬(2000:Int)<s.size:=by omega
  have H:=zex s w (by omega);go_enter func61,ntmps61;go_wp2_with fail;refine H.mono ?_;rintro e f⟨a,c,j,rfl,d,i,m⟩;obtain⟨hg,a3,a6⟩:=zf4 i;have K:j.length=(Qn s.data.toList).length:=by rw[<-i];simp
  obtain⟨k,rfl⟩:∃k,a=⟨k,0,N⟩:=by
   rcases m.1.2 with⟨h,_⟩|⟨Z,a4,a5,h,_⟩;·cases h
   ·simp only[Value.slice.injEq,Option.some.injEq]at h;exact⟨Z,h.1⟩
  rw[<-K]at m|-;obtain⟨O,D⟩:∃O:Obj,O=.cells #[.slice (S ⟨k,0,N⟩) j.length c,I J 0,I J 0] 183:=⟨_,rfl⟩;have G:Rd (f.alloc O) f.heap.size k c j 0 0:=by
   refine⟨by rw[D];exact zk _ _,?_,by omega,?_⟩;rotate_left
   ·intro p u;have q:p.1∈Qn s.data.toList:=by rw[<-i];exact List.mem_map_of_mem u
    have:=zje s.data.toList p.1 q;omega
   have:=m.below (zc f O);exact⟨Zn this.1 (Nat.zero_le _),λp u=>Zn (this.2 p u) (Nat.zero_le _)⟩
  have t:=zf7 (f.alloc O) f.heap.size k c j 0 G hg a3;have U:zu j 0=Qn s.data.toList:=by unfold zu;rw[i];rfl
  rw[U]at t;have R:=d.size;have W:Hid (Below w.heap.size w f):=d;have y:Hid (s.data.toList.length<=2000):=by show _<=_;omega
  subst D;clear H G i m U d K;go_wp2_with fail;refine t.mono ?_;rintro e l⟨V,E,B,r⟩;have A:Below w.heap.size w l:=(W.out.trans ((zc _ _).mono R)).trans ((Kp.below (B.mono (by simp)) (by exact Nat.le_refl _):Below f.heap.size _ l).mono R);have z:Hid (ZU 0 (Qn s.data.toList) V):=E;have v:Hid (Below w.heap.size w l):=A;clear t E A B;cases V with
  |error x=>obtain⟨Y,p⟩:=x;simp only[zS]at r;subst r;go_wp2_with fail;go_ret2;exact⟨.error (Y,p),.read y.out z.out,v.out,rfl⟩
  |ok g=>obtain⟨q,h2,n,o,rfl,a0⟩:=r;obtain⟨vs,L,M⟩:=a0;have F:Zj l (w.heap.size<= ·) g (.slice (S n) g.length o):=⟨vs,L.mono (λb _ d=>by simp at d;omega),zW.mono (λb _ d=>by simp at d;omega) M⟩;have X:Hid (Zj l (w.heap.size<= ·) g (.slice (S n) g.length o)):=F;clear L M F;go_wp2_with fail;go_ret2;exact⟨.ok g,.read y.out z.out,v.out,q,h2,n,o,rfl,X.out⟩
end
def Term.ahead:Term->UInt8| .mk a _ _=>a
def Term.piece:Term->zC| .mk _ p _=>p
def Term.behind:Term->UInt8| .mk _ _ b=>b
mutual
def Ze(E:z7->Bool):zC->Bool
  | .name b=>E b
  | .group c=>Zl E c
  |_=>false
def Zu(E:z7->Bool):Term->Bool
  | .mk a p b=>(a !=0||b==63||b==42)||Ze E p
def ZH(E:z7->Bool):List Term->Bool
  |[]=>true
  |t::s=>Zu E t&&ZH E s
def Zl(E:z7->Bool):List (List Term)->Bool
  |[]=>false
  |s::c=>ZH E s||Zl E c
 end
mutual
def Zi(H:Term->Bool):zC->Bool
  | .group c=>zx H c
  |_=>false
def ZG(H:Term->Bool):Term->Bool
  | .mk a p b=>H (.mk a p b)||Zi H p
def Zc(H:Term->Bool):List Term->Bool
  |[]=>false
  |t::s=>ZG H t||Zc H s
def zx(H:Term->Bool):List (List Term)->Bool
  |[]=>false
  |s::c=>Zc H s||zx H c
 end
mutual
def Zy(E:z7->Bool):zC->List z7
  | .name b=>[b]
  | .group c=>ZC E c
  |_=>[]
def JR(E:z7->Bool):Term->List z7
  | .mk _ p _=>Zy E p
def Q2(E:z7->Bool):List Term->List z7
  |[]=>[]
  |t::s=>JR E t++(if Zu E t then Q2 E s else[])
def ZC(E:z7->Bool):List (List Term)->List z7
  |[]=>[]
  |s::c=>Q2 E s++ZC E c
 end
section
open Go.RowKit Go.WideMaps Go.Maps
theorem za6:Keyed P 9:=string_keyed underlying9
theorem zdn(w:World):(zeroValue 3).run P w=.ok (I J 0) w:=by kernel_rfl
def idx0(a:List z7)(b:z7):Nat:=if a.contains b then a.idxOf b else 0
theorem YU{names:List z7}(b:z7)(h:0<names.length):idx0 names b<names.length:=by
 unfold idx0;split;·rename_i a;exact List.idxOf_lt_length_iff.2 (by simpa using a)
 ·exact h
def Zd(w:World)(mb:Nat)(names:List z7):Prop:=∃D:DataW Unit,w.ownsMap prog 9 (plainElem prog 3) mb names.length D/\∀b,D.atKey (.string b) (.lit (.int .i64 0))=.lit (.int .i64 (idx0 names b))/\Maps.has D (.string b)=names.contains b
theorem za7(b:z7)(a:b.length<=2000):keyOf P 9 (.string ⟨b.toArray⟩)=S (.string b):=by have:=keyOf_string_mk (s:=⟨b.toArray⟩) underlying9 (by show b.toArray.size<=maxLen;unfold maxLen;simp;omega);simpa using this
theorem Zd.look{w:World}{mb:Nat}{names:List z7}(h:Zd w mb names)(b:z7)(hb:b.length<=2000):(Instr.lookup 73 (.map (some mb)) (.string ⟨b.toArray⟩) false).run prog w=.ok (.int .i64 (idx0 names b)) w:=by obtain⟨D,ho,hD⟩:=h;obtain⟨c,hrun,hat,_⟩:=ho.lookup_int za6 underlying73 underlying3 (zdn _) (za7 b hb);rw[(hD b).1]at hat;simp at hat;rw[hrun, <-hat]
theorem Zd.lookOk{w:World}{mb:Nat}{names:List z7}(h:Zd w mb names)(b:z7)(hb:b.length<=2000):(Instr.lookup 73 (.map (some mb)) (.string ⟨b.toArray⟩) true).run prog w=.ok (.tuple #[.int .i64 (idx0 names b),.bool (names.contains b)]) w:=by obtain⟨D,ho,hD⟩:=h;obtain⟨v,ps,hrun,hv⟩:=ho.look_ok za6 underlying73 (zdn _) (plainElem_int underlying3 (by decide)) (za7 b hb);rw[(hD b).1]at hv;obtain⟨a,rfl,ha,_⟩:=plainElem_int_inv underlying3 hv;simp at ha;rw[hrun,(hD b).2, <-ha.1]
theorem Zd.same{w w':World}{a:Nat}{b:List z7}(h:Zd w a b)(i:w'.heap[a]?=w.heap[a]?):Zd w' a b:=by obtain⟨D,⟨d,c,e,f⟩,g⟩:=h;exact⟨D,⟨d,c,by rw[i];exact e,f⟩,g⟩
theorem Zd.lt{w:World}{a:Nat}{c:List z7}(h:Zd w a c):a<w.heap.size:=by obtain⟨D,b,_⟩:=h;exact b.lt
theorem Zd.below{w w':World}{a:Nat}{b:List z7}(h:Zd w a b)(c:Below w.heap.size w w'):Zd w' a b:=h.same (c.block _ h.lt)
theorem zbJ(b:z7):WideAt.IsKeyLit (.string b):=by simp[WideAt.IsKeyLit]
theorem Zd.put{w:World}{mb:Nat}{names:List z7}{b:z7}{D:DataW Unit}{w':World}(hD:∀b,D.atKey (.string b) (.lit (.int .i64 0))=.lit (.int .i64 (idx0 names b))/\Maps.has D (.string b)=names.contains b)(hm:IsMap D)(hb:names.contains b=false)(ho:w'.ownsMap prog 9 (plainElem prog 3) mb (names.length+1) (D.put (.string b) (.lit (.int .i64 names.length))))(hl:b.length<=2000):Zd w' mb (names++[b]):=by
 refine⟨_,by simpa using ho,?_⟩;intro c;by_cases hc:c=b
 ·subst hc;have hn:c∉names:=by simpa using hb
  rw[atKey_put_same hm (zbJ c),has_put_same hm (zbJ c)];constructor;·congr 3;unfold idx0;rw[if_pos (by simp)];rw[List.idxOf_append,if_neg hn];simp
  ·simp
 ·have hne:(Lit.string c)≠(Lit.string b):=by simpa using hc
  rw[atKey_put_other hne,has_put_other hne,(hD c).1,(hD c).2];have hcc:(names++[b]).contains c=names.contains c:=by rw[Bool.eq_iff_iff];simp[hc]
  constructor
  ·congr 3;unfold idx0;rw[hcc];split;·rename_i h1;rw[List.idxOf_append,if_pos (by simpa using h1)]
   ·rfl
  ·exact hcc.symm
mutual
def Y6:zC->Nat
  | .group c=>Qt c+1
  |_=>0
def Jx:Term->Nat
  | .mk _ p _=>Y6 p
def YO:List Term->Nat
  |[]=>0
  |t::s=>max (Jx t) (YO s)
def Qt:List (List Term)->Nat
  |[]=>0
  |s::c=>max (YO s) (Qt c)
 end
def zH(E:List Bool):Obj:=.cells (E.map Value.bool).toArray 4 (0,0)
structure zQ(w:World)(mb eb:Nat)(names:List z7)(E:List Bool):Prop where
 map:Zd w mb names
 emp:w.heap[eb]?=some (zH E)
 len:E.length=names.length
 pos:0<names.length
 le:names.length<=20
def zI(b a n:Nat):Value:=.agg #[.map (S b),.slice (S ⟨a,0,N⟩) n n]
theorem zd{w:World}{b:Nat}{o:Obj}(h:w.heap[b]?=S o):b<w.heap.size:=(Array.getElem?_eq_some_iff.1 h).1
theorem zQ.below{w w':World}{c a:Nat}{d:List z7}{E:List Bool}(h:zQ w c a d E)(b:Below w.heap.size w w'):zQ w' c a d E:=⟨h.map.below b,by rw[b.block _ (zd h.emp)];exact h.emp,h.len,h.pos,h.le⟩
def Eb(a:List z7)(E:List Bool)(b:z7):Bool:=E.getD (idx0 a b) false
theorem zQ.cell{w:World}{d a:Nat}{b:List z7}{E:List Bool}(h:zQ w d a b E)(i:Nat)(c:i<b.length):w.cell? ⟨a,i,N⟩=S (.bool (E.getD i false)):=by
 rw[z8 h.emp];have:i<E.length:=by rw[h.len];exact c
 simp[this]
theorem ZF{A:Nat->Prop}{w b:World}(a:Below w.heap.size w b):Sm A w b:=⟨λ_ _ h=>Zv h a,λg c _=>a.block g c⟩
def Ko(k:Nat):Prop:=∀(w:World) (d b:Nat) (a:List z7) (E:List Bool) (A:Nat->Prop) (c:Z5) (u:Value),zQ w d b a E->Zt w A c u->Qt c<=k->Calls P 127 #[zI d b a.length,u] w λe f=>e=.returned (.bool (Zl (Eb a E) c))/\Below w.heap.size w f
theorem Ui(x:Value)(w:World):(Instr.typeAssert (.iface 251 x) 247 251 true).run P w=.ok (.tuple #[x,.bool true]) w:=by kernel_rfl
theorem zaZ(x:Value)(w:World):(Instr.typeAssert (.iface 251 x) 247 296 true).run P w=.ok (.tuple #[.agg #[.slice N 0 0],.bool false]) w:=by kernel_rfl
theorem Uh(x:Value)(w:World):(Instr.typeAssert (.iface 319 x) 247 251 true).run P w=.ok (.tuple #[.agg #[.string ⟨#[]⟩],.bool false]) w:=by kernel_rfl
theorem Ug(x:Value)(w:World):(Instr.typeAssert (.iface 319 x) 247 296 true).run P w=.ok (.tuple #[.agg #[.slice N 0 0],.bool false]) w:=by kernel_rfl
theorem Ue(x:Value)(w:World):(Instr.typeAssert (.iface 321 x) 247 251 true).run P w=.ok (.tuple #[.agg #[.string ⟨#[]⟩],.bool false]) w:=by kernel_rfl
theorem Ud(x:Value)(w:World):(Instr.typeAssert (.iface 321 x) 247 296 true).run P w=.ok (.tuple #[.agg #[.slice N 0 0],.bool false]) w:=by kernel_rfl
theorem Uc(x:Value)(w:World):(Instr.typeAssert (.iface 345 x) 247 251 true).run P w=.ok (.tuple #[.agg #[.string ⟨#[]⟩],.bool false]) w:=by kernel_rfl
theorem Vn(x:Value)(w:World):(Instr.typeAssert (.iface 345 x) 247 296 true).run P w=.ok (.tuple #[.agg #[.slice N 0 0],.bool false]) w:=by kernel_rfl
theorem Uf(x:Value)(w:World):(Instr.typeAssert (.iface 296 x) 247 251 true).run P w=.ok (.tuple #[.agg #[.string ⟨#[]⟩],.bool false]) w:=by kernel_rfl
theorem Vo(x:Value)(w:World):(Instr.typeAssert (.iface 296 x) 247 296 true).run P w=.ok (.tuple #[x,.bool true]) w:=by kernel_rfl
theorem zbr(k:Nat)(j:∀D,D<k->Ko D)(w:World)(y s:Nat)(f:List z7)(E:List Bool)(A:Nat->Prop)(p:zC)(v:Value)(hF:zQ w y s f E)(g:zp w A p v)(m:Y6 p<=k):Calls P 130 #[zI y s f.length,v] w λe N=>e=.returned (.bool (Ze (Eb f E) p))/\Below w.heap.size w N:=by
 have R:=hF.le;have J:=hF.pos;cases p with
 |name b=>simp only[zp]at g;obtain⟨rfl,G⟩:=g;have n:Ze (Eb f E) (.name b)=E.getD (idx0 f b) false:=rfl;have H:=YU b J;rw[n];have h:∀a d,Below w.heap.size w ((w.alloc a).alloc d):=λa d=>(zc _ _).alloc (by simp) _;have U:=λa d=>(hF.map.below (h a d)).look b G;have O:=λa d=>(hF.below (h a d)).cell (idx0 f b) H;simp only[zI];clear n h;generalize E.getD (idx0 f b) false=r at *;generalize idx0 f b=i at *;clear hF j m;have o:=Ui;go_enter func130,ntmps130;go_wp2_with fail;go_ret;exact⟨rfl,(zc _ _).alloc (by simp) _⟩
 |lit b=>simp only[zp]at g;subst g;have o:=Uh;have q:=Ug;simp only[zI];clear hF j m;go_enter func130,ntmps130;go_wp2_with fail;go_ret;exact⟨rfl,zc _ _⟩|cls l=>simp only[zp]at g;obtain⟨u,rfl,_⟩:=g;have o:=Ue;have q:=Ud;simp only[zI];clear hF j m;go_enter func130,ntmps130;go_wp2_with fail;go_ret;exact⟨rfl,zc _ _⟩
 |any=>simp only[zp]at g;subst g;have o:=Uc;have q:=Vn;simp only[zI];clear hF j m;go_enter func130,ntmps130;go_wp2_with fail;go_ret;exact⟨rfl,zc _ _⟩
 |group c=>
  simp only[zp]at g;obtain⟨u,M,rfl,x,B⟩:=g;obtain⟨K,L,rfl⟩:=zl x.1;have z:Qt c<k:=by simp only[Y6]at m;omega
  have n:Ze (Eb f E) (.group c)=Zl (Eb f E) c:=rfl;rw[n];have h:∀a d,Below w.heap.size w ((w.alloc a).alloc d):=λa d=>(zc _ _).alloc (by simp) _;have t:=λa d=>j _ z ((w.alloc a).alloc d) y s f E A c (.slice K c.length L) (hF.below (h a d)) (Zt.kept (ZF (h a d)) ⟨M,x,B⟩) (Nat.le_refl _);simp only[zI]at t|-;generalize Zl (Eb f E) c=r at *;have o:=Uf;have q:=Vo;clear hF j m h z x B n;go_enter func130,ntmps130;go_wp2_with fail;refine(t _ _).mono ?_;rintro e V⟨rfl,F⟩;clear t;go_wp2_with fail;go_ret;exact⟨rfl,((zc _ _).alloc (by simp) _).trans (F.mono (by simp;omega))⟩
def QN(t:Term)(v:Value):Value:=.agg #[I .u8 t.ahead.toNat,v,I .u8 t.behind.toNat]
theorem zbt(k:Nat)(u:∀x,x<k->Ko x)(w:World)(q l:Nat)(c:List z7)(E:List Bool)(A:Nat->Prop)(t:Term)(v:Value)(hF:zQ w q l c E)(j:Zk w A t v)(n:Jx t<=k):Calls P 166 #[zI q l c.length,QN t v] w λe D=>e=.returned (.bool (Zu (Eb c E) t))/\Below w.heap.size w D:=by
 obtain⟨a,p,b⟩:=t;simp only[Zk]at j;simp only[Jx]at n;obtain⟨z,B,rfl⟩:=zp.oneCell j;have s:Zu (Eb c E) (.mk a p b)=((a !=0||b==63||b==42)||Ze (Eb c E) p):=by simp only[Zu]
 rw[s];have m:∀d f,Below w.heap.size w ((w.alloc d).alloc f):=λd f=>(zc _ _).alloc (by simp) _;have o:=λd f=>zbr k u ((w.alloc d).alloc f) q l c E A p (.iface z B) (hF.below (m d f)) (zp.kept (ZF (m d f)) p _ j) n;generalize Ze (Eb c E) p=r at *;simp only[zI,QN,Term.ahead,Term.behind]at o|-;clear hF u n m j s;by_cases g:a=0
 ·subst g;by_cases h:b=63;·subst h;go_enter func166,ntmps166;go_wp2_with fail;go_ret;exact⟨rfl,(zc _ _).alloc (by simp) _⟩
  ·have G:((b.toNat:Int)==63)=false:=Q3 h 63 rfl;by_cases i:b=42;·subst i;go_enter func166,ntmps166;go_wp2_with fail;go_ret;exact⟨rfl,(zc _ _).alloc (by simp) _⟩
   ·have H:((b.toNat:Int)==42)=false:=Q3 i 42 rfl;rw[show(((0:UInt8)!=0||b==63||b==42)||r)=r from by simp[h,i]];clear h i;go_enter func166,ntmps166;go_wp2_with fail;refine(o _ _).mono ?_;rintro e J⟨rfl,y⟩;clear o;go_wp2_with fail;go_ret;exact⟨rfl,((zc _ _).alloc (by simp) _).trans (y.mono (by simp;omega))⟩
 ·have F:((a.toNat:Int)!=0)=true:=by rw[bne_iff_ne];intro e;apply g;apply UInt8.toNat_inj.1;rw[show(0:UInt8).toNat=0 from rfl];omega
  rw[show((a !=0||b==63||b==42)||r)=true from by simp[g]];clear g;go_enter func166,ntmps166;go_wp2_with fail;go_ret;exact⟨rfl,(zc _ _).alloc (by simp) _⟩
theorem Jk{w:World}{j:Nat}{e:TypeId}{d:Nat}{a:Option Addr}{n c:Nat}{f:List Value}(h:w.ownsRow j e d (.slice a n c) n f)(r:0<n):∃g,a=S ⟨g,0,N⟩/\(∀i,i<n *d->w.cell? ⟨g,i,N⟩=f[i]?)/\g<w.heap.size:=by
 rcases h.2 with⟨p,q⟩|⟨g,m,o,b,_,k,_⟩;·omega
 ·simp only[Value.slice.injEq]at b;obtain⟨rfl,_,rfl⟩:=b;exact⟨g,rfl,λi l=>h.cellAt i l,zd k⟩
theorem V1:∀(s:List Term) (c:List Value) (h:s.length=c.length) (j:Nat) (d:j<s.length),(QM s c)[j *3]?=S (I .u8 s[j].ahead.toNat)/\(QM s c)[j *3+1]?=S (c[j]'(by omega))/\(QM s c)[j *3+2]?=S (I .u8 s[j].behind.toNat)
 |[],_,_,_,d=>by simp at d
 |_::_,[],h,_,_=>by simp at h
 | .mk a p b::s,v::c,h,0,_=>by simp[QM,Term.ahead,Term.behind]
 | .mk a p b::s,v::c,h,j+1,d=>by have:=V1 s c (by simpa using h) j (by simpa using d);simp only[QM,List.getElem_cons_succ];rw[show(j+1) *3=j *3+1+1+1 from by omega];simpa using this
theorem zD.get{w:World}{A:Nat->Prop}:∀{s:List Term} {b:List Value} (h:zD w A s b) (j:Nat) (a:j<s.length) (c:j<b.length),Zk w A s[j] b[j]
 |[],_,_,_,a,_=>by simp at a
 |t::s,b,h,j,a,c=>by
  simp only[zD]at h;obtain⟨v,f,rfl,d,e⟩:=h;cases j with
  |zero=>exact d|succ j=>exact zD.get e j (by simpa using a) (by simpa using c)
theorem zA.get{w:World}{A:Nat->Prop}:∀{c:List (List Term)} {b:List Value} (h:zA w A c b) (j:Nat) (a:j<c.length) (d:j<b.length),QX w A c[j] b[j]
 |[],_,_,_,a,_=>by simp at a
 |t::s,g,h,j,a,d=>by
  simp only[zA]at h;obtain⟨v,i,rfl,e,f⟩:=h;cases j with
  |zero=>exact e|succ j=>exact zA.get f j (by simpa using a) (by simpa using d)
theorem zeD(E:z7->Bool)(s:List Term)(j:Nat)(a:j<s.length):ZH E (s.drop j)=(Zu E s[j]&&ZH E (s.drop (j+1))):=by rw[List.drop_eq_getElem_cons a];simp only[ZH]
theorem zey(E:z7->Bool)(c:List (List Term))(j:Nat)(a:j<c.length):Zl E (c.drop j)=(ZH E c[j]||Zl E (c.drop (j+1))):=by rw[List.drop_eq_getElem_cons a];simp only[Zl]
theorem KI:∀(s:List Term) (j:Nat) (a:j<s.length),Jx s[j]<=YO s
 |[],_,a=>by simp at a
 |t::s,0,_=>by simp only[YO,List.getElem_cons_zero];omega
 |t::s,j+1,a=>by simp only[YO,List.getElem_cons_succ];have:=KI s j (by simpa using a);omega
theorem KH:∀(c:List (List Term)) (j:Nat) (a:j<c.length),YO c[j]<=Qt c
 |[],_,a=>by simp at a
 |t::s,0,_=>by simp only[Qt,List.getElem_cons_zero];omega
 |t::s,j+1,a=>by simp only[Qt,List.getElem_cons_succ];have:=KH s j (by simpa using a);omega
abbrev ZB(b a n:Nat):Obj:=.cells #[.map (S b),.slice (S ⟨a,0,N⟩) n n] 76
theorem zeE(k:Nat)(hC:∀k',k'<k->Ko k')(w:World)(n l:Nat)(c:List z7)(E:List Bool)(A:Nat->Prop)(s:Seq)(u:Value)(hF:zQ w n l c E)(hp:QX w A s u)(hk:YO s<=k):Calls P 164 #[zI n l c.length,u] w λe w'=>e=.returned (.bool (ZH (Eb c E) s))/\Below w.heap.size w w':=by
 obtain⟨o,⟨M,hA⟩,a2⟩:=hp;obtain⟨ua,uc,rfl⟩:=zl M;have a7:s.length<=maxLen:=by
  rcases M.2 with⟨_,h2⟩|⟨g,ab,ad,hv,_,_,d,h2,_⟩;·omega
  ·exact Nat.le_trans d h2
 unfold maxLen at a7;have Z:Hid (s.length=o.length):=zD.length a2;obtain⟨W,z⟩:∃W,W=w.alloc (ZB n l c.length):=⟨_,rfl⟩;have a4:Below w.heap.size w W:=by rw[z];exact zc _ _
 have ae:W.heap.size=w.heap.size+1:=by rw[z];simp
 have a6:W.heap[w.heap.size]?=S (ZB n l c.length):=by rw[z];exact zk _ _
 have a3:Hid (Below w.heap.size w W):=a4;have HE:∃R,R=ZH (Eb c E) s:=⟨_,rfl⟩;obtain⟨R,H⟩:=HE;rw[<-H];have HR:Hid (R=ZH (Eb c E) (s.drop 0)):=by rw[H];rfl
 clear H;simp only[zI];go_enter func164,ntmps164;go_wp2_with fail;rw[<-z];go_loopg[9] s.length (λm i wr=>∃j:Nat,m=s.length-j/\j<=s.length/\i=I J j/\Below W.heap.size W wr/\Hid (R=ZH (Eb c E) (s.drop j)));case atStart=>exact⟨0,rfl,Nat.zero_le _,rfl,Below.refl _ _,HR⟩
 case round=>
  obtain⟨j,rfl,hj,rfl,B,y⟩:=hrel;have a0:wr.heap[w.heap.size]?=S (ZB n l c.length):=by rw[B.block _ (by omega)];exact a6
  have af:=z8 a0;clear a0;have h:Below w.heap.size w wr:=a3.out.trans (B.mono (by omega));have a9:=B.size;by_cases G:j<s.length
  ·have F:j<o.length:=by have:=Z.out;omega
   obtain⟨g,rfl,D,L⟩:=Jk M (by omega);obtain⟨t0,t1,t2⟩:=V1 s o Z.out j G;have c0:wr.cell? ⟨g,j *3,N⟩=S (I .u8 s[j].ahead.toNat):=by rw[h.cell (p:=⟨g,_,N⟩) L,D _ (by omega)];exact t0
   have c1:wr.cell? ⟨g,j *3+1,N⟩=S (o[j]'F):=by rw[h.cell (p:=⟨g,_,N⟩) L,D _ (by omega)];exact t1
   have c2:wr.cell? ⟨g,j *3+2,N⟩=S (I .u8 s[j].behind.toNat):=by rw[h.cell (p:=⟨g,_,N⟩) L,D _ (by omega)];exact t2
   have v:=zD.get a2 j G F;have q:=λO=>zbt k hC (wr.alloc O) n l c E A s[j] (o[j]'F) (hF.below (h.alloc (by omega) O)) (Zk.kept (ZF (h.alloc (by omega) O)) _ _ v) (Nat.le_trans (KI s j G) hk);have a1:=zeD (Eb c E) s j G;obtain⟨tt,xx,V⟩:∃t x,o[j]'F=.iface t x:=by
    cases aa:s[j]with
    |mk a p b=>rw[aa]at v;simp only[Zk]at v;exact zp.oneCell v
   rw[V]at c1;simp only[V,QN,zI]at q;have Y:Hid (ZH (Eb c E) (s.drop j)=(Zu (Eb c E) s[j]&&ZH (Eb c E) (s.drop (j+1)))):=a1;have ag:(j:Int)<s.length:=by omega
   clear a1 v t0 t1 t2 V D;generalize hr:Zu (Eb c E) s[j]=r at *;generalize s[j].ahead=ah at *;generalize s[j].behind=be at *;clear hr;have ai:w.heap.size<wr.heap.size:=by omega
   cases r with
   |true=>
    go_wp2_with fail;refine(q _).mono ?_;rintro e X⟨rfl,f⟩;have U:=f.size;simp at U;have K:Below W.heap.size W X:=(B.alloc a9 _).trans (f.mono (by simp;omega));clear q f;go_wp2_with fail;go_roundg (s.length-(j+1));case measure=>omega
    case rel=>exact⟨j+1,rfl,by omega,by go_num,K,by have d:=y.out;rw[Y.out,Bool.true_and]at d;exact d⟩
   |false=>go_wp2_with fail;refine(q _).mono ?_;rintro e X⟨rfl,f⟩;have U:=f.size;simp at U;have K:Below w.heap.size w X:=(h.alloc (by omega) _).trans (f.mono (by simp;omega));clear q f;go_wp2_with fail;go_ret;exact⟨by have d:=y.out;rw[Y.out,Bool.false_and]at d;rw[d];rfl,K⟩
  ·have a8:j=s.length:=by omega
   have a5:Hid (R=true):=by have d:=y.out;rw[a8,List.drop_length]at d;exact d
   clear y;go_wp2_with fail;go_ret;exact⟨by rw[a5.out];rfl,h⟩
theorem zeA(k:Nat)(hC:∀Z,Z<k->Ko Z):Ko k:=by
 intro w y o a E A c u hF hp hk;obtain⟨n,⟨G,hA⟩,Y⟩:=hp;obtain⟨ua,uc,rfl⟩:=zl G;have a5:c.length<=maxLen:=by
  rcases G.2 with⟨_,O⟩|⟨g,a9,aa,hv,_,_,b,O,_⟩;·omega
  ·exact Nat.le_trans b O
 unfold maxLen at a5;have a1:Hid (c.length=n.length):=zA.length Y;obtain⟨W,s⟩:∃W,W=w.alloc (ZB y o a.length):=⟨_,rfl⟩;have a2:Below w.heap.size w W:=by rw[s];exact zc _ _
 have ab:W.heap.size=w.heap.size+1:=by rw[s];simp
 have a4:W.heap[w.heap.size]?=S (ZB y o a.length):=by rw[s];exact zk _ _
 have a0:Hid (Below w.heap.size w W):=a2;have HE:∃R,R=Zl (Eb a E) c:=⟨_,rfl⟩;obtain⟨R,z⟩:=HE;rw[<-z];have HR:Hid (R=Zl (Eb a E) (c.drop 0)):=by rw[z];rfl
 clear z;simp only[zI];go_enter func127,ntmps127;go_wp2_with fail;rw[<-s];go_loopg[9] c.length (λm i wr=>∃j:Nat,m=c.length-j/\j<=c.length/\i=I J j/\Below W.heap.size W wr/\Hid (R=Zl (Eb a E) (c.drop j)));case atStart=>exact⟨0,rfl,Nat.zero_le _,rfl,Below.refl _ _,HR⟩
 case round=>
  obtain⟨j,rfl,hj,rfl,v,q⟩:=hrel;have U:wr.heap[w.heap.size]?=S (ZB y o a.length):=by rw[v.block _ (by omega)];exact a4
  have ad:=z8 U;clear U;have f:Below w.heap.size w wr:=a0.out.trans (v.mono (by omega));have af:=v.size;by_cases D:j<c.length
  ·have h:j<n.length:=by have:=a1.out;omega
   obtain⟨g,rfl,V,a7⟩:=Jk G (by omega);have c0:wr.cell? ⟨g,j,N⟩=S (n[j]'h):=by rw[f.cell (p:=⟨g,_,N⟩) a7,V _ (by omega)];exact List.getElem?_eq_getElem h
   have H:=zA.get Y j D h;have a6:=Nat.le_trans (KH c j D) hk;have l:=zeE k hC wr y o a E A c[j] (n[j]'h) (hF.below f) (H.kept (ZF f)) a6;have X:=zey (Eb a E) c j D;obtain⟨tt,xx,K⟩:∃t x,n[j]'h=.slice t c[j].length x:=by obtain⟨_,F,_⟩:=H;exact zl F.1
   rw[K]at c0;simp only[K,zI]at l;have M:Hid (Zl (Eb a E) (c.drop j)=(ZH (Eb a E) c[j]||Zl (Eb a E) (c.drop (j+1)))):=X;have ae:(j:Int)<c.length:=by omega
   clear X H K V;generalize F:ZH (Eb a E) c[j]=r at *;generalize c[j].length=cl at *;clear F;have ag:w.heap.size<wr.heap.size:=by omega
   cases r with
   |false=>
    go_wp2_with fail;refine l.mono ?_;rintro e L⟨rfl,d⟩;have B:Below W.heap.size W L:=v.trans (d.mono (by omega));clear l d;go_wp2_with fail;go_roundg (c.length-(j+1));case measure=>omega
    case rel=>exact⟨j+1,rfl,by omega,by go_num,B,by have b:=q.out;rw[M.out,Bool.false_or]at b;exact b⟩
   |true=>go_wp2_with fail;refine l.mono ?_;rintro e L⟨rfl,d⟩;have B:Below w.heap.size w L:=f.trans (d.mono (by omega));clear l d;go_wp2_with fail;go_ret;exact⟨by have b:=q.out;rw[M.out,Bool.true_or]at b;rw[b];rfl,B⟩
  ·have a8:j=c.length:=by omega
   have a3:Hid (R=false):=by have b:=q.out;rw[a8,List.drop_length]at b;exact b
   clear q;go_wp2_with fail;go_ret;exact⟨by rw[a3.out];rfl,f⟩
theorem qN(k:Nat):Ko k:=by
 induction k using Nat.strongRecOn with
 |ind k a=>exact zeA k a
theorem zeC(w:World)(c b:Nat)(a:List z7)(E:List Bool)(A:Nat->Prop)(p:zC)(v:Value)(hF:zQ w c b a E)(d:zp w A p v):Calls P 130 #[zI c b a.length,v] w λe f=>e=.returned (.bool (Ze (Eb a E) p))/\Below w.heap.size w f:=zbr (Y6 p) (λk _=>qN k) w c b a E A p v hF d (Nat.le_refl _)
theorem zeG(w:World)(c b:Nat)(a:List z7)(E:List Bool)(A:Nat->Prop)(t:Term)(v:Value)(hF:zQ w c b a E)(d:Zk w A t v):Calls P 166 #[zI c b a.length,QN t v] w λe f=>e=.returned (.bool (Zu (Eb a E) t))/\Below w.heap.size w f:=zbt (Jx t) (λk _=>qN k) w c b a E A t v hF d (Nat.le_refl _)
theorem zez(w:World)(d b:Nat)(a:List z7)(E:List Bool)(A:Nat->Prop)(c:Z5)(u:Value)(hF:zQ w d b a E)(f:Zt w A c u):Calls P 127 #[zI d b a.length,u] w λe g=>e=.returned (.bool (Zl (Eb a E) c))/\Below w.heap.size w g:=qN (Qt c) w d b a E A c u hF f (Nat.le_refl _)
mutual
theorem zeB{E F:z7->Bool}(h:∀b,E b=true->F b=true):∀(p:zC),Ze E p=true->Ze F p=true
  | .name b,hp=>h b hp
  | .group c,hp=>by simp only[Ze]at hp|-;exact qM h c hp
  | .lit _,hp=>by simp[Ze]at hp
  | .cls _,hp=>by simp[Ze]at hp
  | .any,hp=>by simp[Ze]at hp
theorem zeF{E F:z7->Bool}(h:∀b,E b=true->F b=true):∀(t:Term),Zu E t=true->Zu F t=true
  | .mk a p b,ht=>by
    simp only[Zu,Bool.or_eq_true]at ht|-
    rcases ht with ht|ht
    · exact .inl ht
    · exact .inr (zeB h p ht)
theorem zbs{E F:z7->Bool}(h:∀b,E b=true->F b=true):∀(s:List Term),ZH E s=true->ZH F s=true
  |[],_=>by simp[ZH]
  |t::s,hs=>by
    simp only[ZH,Bool.and_eq_true]at hs|-
    exact⟨zeF h t hs.1,zbs h s hs.2⟩
theorem qM{E F:z7->Bool}(h:∀b,E b=true->F b=true):∀(c:List (List Term)),Zl E c=true->Zl F c=true
  |[],hc=>by simp[Zl]at hc
  |s::c,hc=>by
    simp only[Zl,Bool.or_eq_true]at hc|-
    rcases hc with hc|hc
    · exact .inl (zbs h s hc)
    · exact .inr (qM h c hc)
 end
def QP(a:List z7)(g:List ze)(E:List Bool):Prop:=∀i (h:i<g.length),Zl (Eb a E) g[i].choice=true->E.getD i false=true
def QQ(a:List z7)(g:List ze)(E:List Bool):Prop:=∀F:List Bool,QP a g F->∀i,E.getD i false=true->F.getD i false=true
theorem QQ.set{a:List z7}{g:List ze}{E:List Bool}(h:QQ a g E){i:Nat}(l:i<g.length)(k:Zl (Eb a E) g[i].choice=true):QQ a g (E.set i true):=by
 intro F hF j d;by_cases c:j=i;·subst c;exact hF j l (qM (λb f=>h F hF _ f) _ k)
 ·refine h F hF j ?_;rw[List.getD_eq_getElem?_getD,List.getElem?_set,if_neg (λe=>c e.symm)]at d;rw[List.getD_eq_getElem?_getD];exact d
def cf(E:List Bool):Nat:=E.countP (· ==false)
theorem zef{E:List Bool}{i:Nat}(b:i<E.length)(h:E.getD i false=false):cf (E.set i true)<cf E:=by
 unfold cf;have a:E[i]=false:=by simpa[b]using h
 induction E generalizing i with
 |nil=>simp at b
 |cons x d c=>
  cases i with
  |zero=>simp at a;subst a;simp|succ i=>have:=c (i:=i) (by simpa using b) (by simpa using h) (by simpa using a);simp only[List.set_cons_succ,List.countP_cons];omega
theorem qI(E:List Bool)(i:Nat):Obj.cells ((E.map Value.bool).toArray.setIfInBounds i (.bool true)) 4 (0,0)=zH (E.set i true):=by unfold zH;congr 1;apply Array.toList_inj.1;simp[List.map_set]
theorem zas{A:Nat->Prop}{a:Nat}{w c:World}{E:List Bool}(i:w.heap[a]?=S (zH E))(b:Kp a w.heap.size w c)(d:∀g,A g->g≠a):Sm A w c:=⟨λ_ _ h=>JT h i (by decide) b,λg f e=>b.block g f (d g e)⟩
theorem Zj.kept{w w':World}{A:Nat->Prop}(h:Sm A w w'){g:List ze}{v:Value}(c:Zj w A g v):Zj w' A g v:=by obtain⟨d,a,b⟩:=c;exact⟨d,a.kept h.blocks,zW.kept h b⟩
theorem zW.get{w:World}{A:Nat->Prop}:∀{g:List ze} {b:List Value} (h:zW w A g b) (j:Nat) (a:j<g.length) (c:j<b.length),Zt w A g[j].choice b[j]/\g[j].name.length<=2000
 |[],_,_,_,a,_=>by simp at a
 |t::s,b,h,j,a,c=>by
  obtain⟨v,f,rfl,d,e⟩:=h;cases j with
  |zero=>exact d|succ j=>exact zW.get e j (by simpa using a) (by simpa using c)
theorem zct:∀(g:List ze) (a:List Value) (h:g.length=a.length) (j:Nat) (b:j<g.length),(J0 g a)[j *2]?=S (.string ⟨g[j].name.toArray⟩)/\(J0 g a)[j *2+1]?=S (a[j]'(by omega))
 |[],_,_,_,b=>by simp at b
 |_::_,[],h,_,_=>by simp at h
 |r::s,v::a,h,0,_=>by simp[J0]
 |r::s,v::a,h,j+1,b=>by have:=zct s a (by simpa using h) j (by simpa using b);simp only[J0,List.getElem_cons_succ];rw[show(j+1) *2=j *2+1+1 from by omega];simpa using this
theorem Zj.at{w:World}{A:Nat->Prop}{g:List ze}{f:Addr}{o:Nat}(h:Zj w A g (.slice (S f) g.length o))(j:Nat)(l:j<g.length):∃b a c,f=⟨b,0,N⟩/\b<w.heap.size/\A b/\w.cell? ⟨b,j *2,N⟩=S (.string ⟨g[j].name.toArray⟩)/\w.cell? ⟨b,j *2+1,N⟩=S (.slice a g[j].choice.length c)/\Zt w A g[j].choice (.slice a g[j].choice.length c)/\g[j].name.length<=2000:=by
 obtain⟨n,⟨p,q⟩,i⟩:=h;obtain⟨b,d,k,s⟩:=Jk p (by omega);have x:=zW.length i;obtain⟨y,m⟩:=zct g n x j l;obtain⟨e,t⟩:=zW.get i j l (by omega);have r:∃a c,n[j]'(by omega)=.slice a g[j].choice.length c:=by obtain⟨z,u,_⟩:=e;exact zl u.1
 obtain⟨a,c,v⟩:=r;simp only[Option.some.injEq]at d;rw[v]at m e;exact⟨b,a,c,d,s,q b (by rw[d];rfl),by rw[k _ (by omega)];exact y,by rw[k _ (by omega)];exact m,e,t⟩
theorem zQ.kp{w d:World}{c a:Nat}{f:List z7}{E b:List Bool}(h:zQ w c a f E)(j:Kp a w.heap.size w d)(i:d.heap[a]?=S (zH b))(k:b.length=E.length):zQ d c a f b:=by refine⟨h.map.same (j.block c h.map.lt ?_),i,k.trans h.len,h.pos,h.le⟩;intro e;subst e;obtain⟨D,⟨m,l,g,_⟩,_⟩:=h.map;have:=h.emp;rw[g]at this;simp[zH]at this
structure V7(W:World)(mb eb:Nat)(names:List z7)(g:List ze)(E:List Bool)(wr:World):Prop where
 facts:zQ wr mb eb names E
 kp:Kp eb W.heap.size W wr
 least:QQ names g E
theorem zeU(w:World)(r k:Nat)(d:List z7)(M:List Bool)(A:Nat->Prop)(g:List ze)(X:Addr)(Y:Nat)(hF:zQ w r k d M)(hG:Zj w A g (.slice (S X) g.length Y))(hA:∀b,A b->b≠k)(af:g.length=d.length)(hL:QQ d g M):Calls P 90 #[zI r k d.length,.slice (S X) g.length Y] w λe w'=>e=.returned (.tuple #[])/\Kp k w.heap.size w w'/\∃D,zQ w' r k d D/\QP d g D/\QQ d g D:=by
 have aL:=hF.le;have aO:=hF.pos;obtain⟨W,hW⟩:∃W,W=w.alloc (ZB r k d.length):=⟨_,rfl⟩;have Z:Below w.heap.size w W:=by rw[hW];exact zc _ _
 have aA:W.heap.size=w.heap.size+1:=by rw[hW];simp
 have aq:W.heap[w.heap.size]?=S (ZB r k d.length):=by rw[hW];exact zk _ _
 have aD:k<w.heap.size:=zd hF.emp;have aj:Hid (Below w.heap.size w W):=Z;have a8:Hid (V7 W r k d g M W):=⟨hF.below Z,Kp.refl _ _ _,hL⟩;have HG:Hid (Zj W A g (.slice (S X) g.length Y)):=hG.kept (ZF Z);have HA:Hid (∀b,A b->b≠k):=hA;have an:Hid (g.length=d.length):=af;have aH:g.length<=20:=by omega
 have aI:0<g.length:=by omega
 clear hF hG hL Z hA af;simp only[zI];go_enter func90,ntmps90;go_wp2_with fail;rw[<-hW];go_loopg[4] (cf M+1) (λm v wr=>∃D l,v=.bool l/\m=(if l then cf D+1 else 0)/\V7 W r k d g D wr/\Hid (l=false->QP d g D));case atStart=>exact⟨M,true,rfl,rfl,a8.out,λh=>by cases h⟩
 case round=>
  obtain⟨n,l,rfl,hm,hR,a3⟩:=hrel;have HM:Hid (gk=if l then cf n+1 else 0):=hm;clear hm;have V:Hid (V7 W r k d g n wr):=hR;have aP:=hR.kp.size;clear hR;cases l with
  |false=>have HC:Hid (QP d g n):=a3.out rfl;clear a3;go_wp2_with fail;go_end0;exact⟨rfl,(Kp.of aj.out).trans (V.out.kp.mono (by omega)),n,V.out.facts,HC.out,V.out.least⟩
  |true=>
   clear a3;go_wp2_with fail;go_loopg[4,10] g.length (λm v i wr=>∃(j:Nat) (f:List Bool) (l:Bool),m=g.length-j/\j<=g.length/\v=.bool l/\i=I J j/\V7 W r k d g f wr/\Hid (l=false->f=n/\∀t (u:t<g.length),t<j->Zl (Eb d n) g[t].choice=true->n.getD t false=true)/\Hid (l=true->cf f<cf n));case atStart=>exact⟨0,n,false,rfl,Nat.zero_le _,rfl,rfl,V.out,λ_=>⟨rfl,λt _ u=>by omega⟩,λh=>by cases h⟩
   case round=>
    obtain⟨j,f,l,rfl,hj,rfl,rfl,R,H,u⟩:=hrel;have q:Hid (V7 W r k d g f wr):=R;have aQ:=R.kp.size;have a0:=R.facts.emp;have ab:wr.heap[w.heap.size]?=S (ZB r k d.length):=by rw[R.kp.block _ (by omega) (by omega)];exact aq
    have ar:=z8 ab;clear R ab;by_cases ai:j<g.length
    ·have aa:Zj wr A g (.slice (S X) g.length Y):=HG.out.kept (zas a8.out.facts.emp q.out.kp HA.out);obtain⟨gb,a,c,rfl,aG,az,c0,c1,a9,aN⟩:=aa.at j ai;have ag:j<d.length:=by have:=an.out;omega
     have a4:=q.out.facts.cell j ag;have aE:=zi a0 j;have a2:∀O,Below wr.heap.size wr (wr.alloc O):=λO=>zc _ _;have B:=λO=>zez (wr.alloc O) r k d f A g[j].choice _ (q.out.facts.below (a2 O)) (a9.kept (ZF (a2 O)));simp only[zI]at B;have aM:(j:Int)<g.length:=by omega
     have aK:(j:Int)<d.length:=by omega
     have ay:w.heap.size<wr.heap.size:=by omega
     have ae:k<wr.heap.size:=zd a0;have ah:f.length=d.length:=q.out.facts.len;have ao:Hid (f.length=d.length):=ah;have ak:Hid (wr.heap[k]?=S (zH f)):=a0;clear aa a9 a2 ah a0;cases K:f.getD j false with
     |true=>
      rw[K]at a4;have hN:Hid (l=false->f=n/\∀t (u:t<g.length),t<j+1->Zl (Eb d n) g[t].choice=true->n.getD t false=true):=by
       intro U;obtain⟨x,F⟩:=H.out U;refine⟨x,λt u aw z=> ?_⟩;by_cases e:t=j;·subst e;rw[<-x];exact K
       ·exact F t u (by omega) z
      clear K B H;go_wp2_with fail;go_roundg (g.length-(j+1));case measure=>omega
      case rel=>exact⟨j+1,f,l,rfl,by omega,rfl,by go_num,⟨q.out.facts.below (zc _ _),q.out.kp.alloc (by omega) _,q.out.least⟩,hN,u⟩
     |false=>
      rw[K]at a4;have al:Hid (f.getD j false=false):=K;clear K;cases L:Zl (Eb d f) g[j].choice with
      |false=>
       have a1:Hid (Zl (Eb d f) g[j].choice=false):=L;simp only[L]at B;clear L;have hN:Hid (l=false->f=n/\∀t (u:t<g.length),t<j+1->Zl (Eb d n) g[t].choice=true->n.getD t false=true):=by
        intro U;obtain⟨x,F⟩:=H.out U;refine⟨x,λt u aw z=> ?_⟩;by_cases e:t=j;·subst e;rw[<-x,a1.out]at z;cases z
        ·exact F t u (by omega) z
       clear H;go_wp2_with fail;refine(B _).mono ?_;rintro e s⟨rfl,G⟩;have a6:=G.size;simp at a6;have y:Below wr.heap.size wr s:=(zc _ _).trans (G.mono (by simp));clear B G;go_wp2_with fail;go_roundg (g.length-(j+1));case measure=>omega
       case rel=>exact⟨j+1,f,l,rfl,by omega,rfl,by go_num,⟨q.out.facts.below y,q.out.kp.trans (Kp.of (y.mono (by omega))),q.out.least⟩,hN,u⟩
      |true=>
       have a1:Hid (Zl (Eb d f) g[j].choice=true):=L;simp only[L]at B;clear L;go_wp2_with fail;refine(B _).mono ?_;rintro e s⟨rfl,G⟩;have a6:=G.size;simp at a6;have y:Below wr.heap.size wr s:=(zc _ _).trans (G.mono (by simp));have a5:s.heap[k]?=S (zH f):=by rw[y.block _ ae];exact ak.out
       have aC:s.cell? ⟨k,j,N⟩=S (.bool false):=by rw[y.cell (p:=⟨k,j,N⟩) ae];exact a4
       have aF:=zi a5 j;have aB:∀o,s.cell? ⟨w.heap.size,o,N⟩=(#[.map (S r),.slice (S ⟨k,0,N⟩) d.length d.length]:Array Value)[o]?:=λo=>by rw[y.cell (p:=⟨w.heap.size,o,N⟩) ay];exact ar o
       have aR:w.heap.size<s.heap.size:=by omega
       have a7:Hid (Below wr.heap.size wr s):=y;have am:Hid (s.heap[k]?=S (zH f)):=a5;clear B G y a5;go_wp2_with fail;have av:(s.setCell ⟨k,j,N⟩ (.bool true)).heap[k]?=S (zH (f.set j true)):=by rw[zo am.out,qI]
       have au:Kp k s.heap.size s (s.setCell ⟨k,j,N⟩ (.bool true)):=(Kp.refl _ _ _).setRb _ _;have ap:zQ s r k d f:=q.out.facts.below a7.out;go_roundg (g.length-(j+1));case measure=>omega
       case rel=>
        refine⟨j+1,f.set j true,true,rfl,by omega,rfl,by go_num,⟨ap.kp au av (by simp),(q.out.kp.trans (Kp.of (a7.out.mono (by omega)))).setRb _ _,q.out.least.set ai a1.out⟩,(λh=>by cases h),λ_=> ?_⟩;have x:=zef (E:=f) (i:=j) (by rw[ao.out];exact ag) al.out;cases l with
        |true=>have:=u.out rfl;omega|false=>obtain⟨F,_⟩:=H.out rfl;rw[<-F];exact x
    ·have aJ:j=g.length:=by omega
     have HT:Hid ((if l then cf f+1 else 0)<gk):=by
      show _<_;rw[HM.out];cases l with
      |true=>have:=u.out rfl;simp;omega|false=>simp
     have HC:Hid (l=false->QP d g f):=by intro U;obtain⟨x,F⟩:=H.out U;intro t ax z;rw[x]at z|-;exact F t ax (by omega) z
     clear H u;go_wp2_with fail;go_roundg (if l then cf f+1 else 0);case measure=>exact HT.out
     case rel=>exact⟨f,l,rfl,rfl,q.out,HC⟩
def Jp(a:List z7)(i:Nat):Bool:=(a.take i).contains (a.getD i [])
def zg(g:List ze):List z7:=g.map (·.name)
theorem zgI(g:List ze)(j:Nat)(a:j<g.length):(zg g).getD j []=g[j].name:=by simp[zg,a]
theorem zgJ(g:List ze)(j:Nat)(a:j<g.length):(zg g).take (j+1)=(zg g).take j++[g[j].name]:=by
 have h:j<(zg g).length:=by simp[zg,a]
 rw[List.take_succ_eq_append_getElem h];simp[zg]
def JG(a:List z7):Option Nat->Prop
 |none=>∀i,i<a.length->Jp a i=false
 |some i=>i<a.length/\Jp a i=true/\∀t,t<i->Jp a t=false
def JP(a:Nat):Option Nat->Value
 |none=>.nilIface
 |some i=>zS a i
theorem zgW(w:World)(mb eb n:Nat)(A:Nat->Prop)(g:List ze)(ga:Addr)(gc:Nat)(hM:Zd w mb [])(hG:Zj w A g (.slice (some ga) g.length gc))(hA:∀b,A b->b≠mb)(hgl:g.length<=20):Calls prog 87 #[zI mb eb n,.slice (some ga) g.length gc] w λe w'=>Kp mb w.heap.size w w'/\∃o,JG (zg g) o/\e=.returned (JP 5 o)/\(o=none->Zd w' mb (zg g)):=by
 obtain⟨W,hW⟩:∃W,W=w.alloc (ZB mb eb n):=⟨_,rfl⟩;have hB0:Below w.heap.size w W:=by rw[hW];exact zc _ _
 have hWsz:W.heap.size=w.heap.size+1:=by rw[hW];simp
 have hbox:W.heap[w.heap.size]?=some (ZB mb eb n):=by rw[hW];exact zk _ _
 have hmbl:mb<w.heap.size:=hM.lt;obtain⟨es0,cl0,hmb0⟩:∃es cl,w.heap[mb]?=some (.map es cl):=by obtain⟨D,⟨es,cl,h1,_⟩,_⟩:=hM;exact⟨es,cl,h1⟩
 have hmbW:W.heap[mb]?=some (.map es0 cl0):=by rw[hB0.block _ hmbl];exact hmb0
 have HB0:Hid (Below w.heap.size w W):=hB0;have HM0:Hid (Zd W mb []):=hM.below hB0;have HG:Hid (Zj W A g (.slice (some ga) g.length gc)):=hG.kept (ZF hB0);have HA:Hid (∀b,A b->b≠mb):=hA;clear hM hG hB0 hmb0 hA;have HMB:Hid (W.heap[mb]?=some (.map es0 cl0)):=hmbW;clear hmbW;simp only[zI];go_enter func87,ntmps87;go_wp2_with fail;rw[<-hW];go_loopg[11] g.length (λm i wr=>∃(j:Nat),m=g.length-j/\j<=g.length/\i=.int .i64 j/\Zd wr mb ((zg g).take j)/\Kp mb W.heap.size W wr/\Hid (∀t,t<j->Jp (zg g) t=false));case atStart=>exact⟨0,rfl,Nat.zero_le _,rfl,by simpa using HM0.out,Kp.refl _ _ _,λt ht=>by omega⟩
 case round=>
  obtain⟨j,rfl,hj,rfl,hMr,hK,hno⟩:=hrel;have hszr:=hK.size;have hbx0:wr.heap[w.heap.size]?=some (ZB mb eb n):=by rw[hK.block _ (by omega) (by omega)];exact hbox
  have hbx:=z8 hbx0;have hw9:w.heap.size<wr.heap.size:=by omega
  have hmr:=hMr.lt;have HK:Hid (Kp mb W.heap.size W wr):=hK;have HM:Hid (Zd wr mb ((zg g).take j)):=hMr;clear hbx0 hK hMr;by_cases hlt:j<g.length
  ·have hSm:Sm A W wr:=by
    refine⟨λu l hl=>Z6 hl (λb hb=>HK.out.block b (hl.lt b hb).2 ?_),λb hb ha=>HK.out.block b hb ?_⟩;·intro e;subst e;obtain⟨cur,h1⟩:=Zr hl hb;rw[HMB.out]at h1;cases h1
    ·exact HA.out b ha
   have hGr:Zj wr A g (.slice (some ga) g.length gc):=HG.out.kept hSm;obtain⟨gb,a,c,rfl,hgb,hAgb,c0,c1,hCh,hnm⟩:=hGr.at j hlt;have hnt:=zgJ g j hlt;have htw:Jp (zg g) j=((zg g).take j).contains g[j].name:=by unfold Jp;rw[zgI g j hlt]
   have hlk:=λO=>(HM.out.below (zc wr O)).lookOk g[j].name hnm;have hlt':(j:Int)<g.length:=by omega
   have HNT:Hid ((zg g).take (j+1)=(zg g).take j++[g[j].name]):=hnt;have HTW:Hid (Jp (zg g) j=((zg g).take j).contains g[j].name):=htw;have HNM:Hid (g[j].name.length<=2000):=hnm;have htl:((zg g).take j).length=j:=by simp[zg];omega
   clear hGr hCh hnt htw hSm hnm;cases hcn:((zg g).take j).contains g[j].name with
   |true=>simp only[hcn]at hlk;have HF:Hid (JG (zg g) (some j)):=⟨by simp[zg];exact hlt,by rw[HTW.out];exact hcn,hno.out⟩;clear hcn hno;go_wp2_with fail;go_ret;exact⟨((Kp.of HB0.out).trans (HK.out.mono (by omega))).alloc (by omega) _,some j,HF.out,rfl,λh=>by cases h⟩
   |false=>
    simp only[hcn]at hlk;have HN:Hid (∀t,t<j+1->Jp (zg g) t=false):=by
     intro t ht;by_cases e:t=j;·subst e;rw[HTW.out];exact hcn
     ·exact hno.out t (by omega)
    have HCN:Hid (((zg g).take j).contains g[j].name=false):=hcn;clear hcn hno;obtain⟨D,hown,hD⟩:=HM.out;rw[htl]at hown;have HD:Hid (∀b,D.atKey (.string b) (.lit (.int .i64 0))=.lit (.int .i64 (idx0 ((zg g).take j) b))/\Maps.has D (.string b)=((zg g).take j).contains b):=hD;have hkey:=za7 g[j].name HNM.out;clear hD;go_wp2_with(first|(at_mapUpdate;refine wpList_mapUpdate_own _ rfl _ _ _ 73 rfl 9 3 za6 underlying73 _ mb j _ rfl (hown.alloc _) (by unfold maxLen;omega) _ _ _ rfl rfl hkey _ [] (plainElem_int underlying3 (WalkArith.wf_i64 (by omega))) ?_));intro w1 hown1 hgrow1;have hm1:Zd w1 mb ((zg g).take (j+1)):=by rw[HNT.out];refine Zd.put (w:=wr) HD.out hown.isMap HCN.out ?_ HNM.out;rw[htl];exact hown1
    have hk1:Kp mb W.heap.size W w1:=by have h1:Kp mb W.heap.size W (wr.alloc (.cells #[.string ⟨g[j].name.toArray⟩,.slice a g[j].choice.length c] 142)):=HK.out.alloc hszr _;exact h1.trans ⟨hgrow1.os,hgrow1.tape,hgrow1.output,hgrow1.size,λb hb hne=>hgrow1.block b (by simp;omega) (by simpa using hne)⟩
    clear hown1 hgrow1 hown hlk;go_wp2_with fail;go_roundg (g.length-(j+1));case measure=>omega
    case rel=>exact⟨j+1,rfl,by omega,by go_num,hm1,hk1,HN⟩
  ·have hjg:j=g.length:=by omega
   have HF:Hid (JG (zg g) none):=λt ht=>hno.out t (by simp[zg]at ht;omega);have HM2:Hid (Zd wr mb (zg g)):=by have:=HM.out;rw[hjg,List.take_of_length_le (by simp[zg])]at this;exact this
   clear hno;go_wp2_with fail;go_ret;exact⟨(Kp.of HB0.out).trans (HK.out.mono (by omega)),none,HF.out,rfl,λ_=>HM2.out⟩
structure Yq(w:World)(bx mb eb:Nat)(names:List z7)(E:List Bool):Prop where
 box:w.heap[bx]?=some (ZB mb eb names.length)
 facts:zQ w mb eb names E
theorem Yq.below{w w':World}{a d b:Nat}{e:List z7}{E:List Bool}(h:Yq w a d b e E)(c:Below w.heap.size w w'):Yq w' a d b e E:=⟨by rw[c.block _ (zd h.box)];exact h.box,h.facts.below c⟩
def zv(a:List z7)(t:Term):Bool:=match t.piece with| .name b=> !a.contains b|_=>false
def zJ(a:z7->Bool)(t:Term):Bool:=(t.behind==42||t.behind==43)&&Ze a t.piece
theorem zju(w:World)(l s n:Nat)(h:List z7)(E:List Bool)(A:Nat->Prop)(t:Term)(v:Value)(hF:Yq w l s n h E)(d:Zk w A t v):Calls P 126 #[QN t v,.pointer (S ⟨l,0,N⟩)] w λe x=>e=.returned (.bool (zv h t))/\Below w.heap.size w x:=by
 obtain⟨a,p,b⟩:=t;simp only[Zk]at d;have z:=z8 hF.box;have y:=zd hF.box;have g:∀i j,Below w.heap.size w ((w.alloc i).alloc j):=λi j=>(zc _ _).alloc (by simp) _;simp only[QN,Term.ahead,Term.behind];cases p with
 |name f=>simp only[zp]at d;obtain⟨rfl,o⟩:=d;have m:zv h (.mk a (.name f) b)= !h.contains f:=rfl;rw[m];have B:=λi j=>(hF.facts.map.below (g i j)).lookOk f o;have k:=Ui;generalize h.contains f=r at *;generalize idx0 h f=D at *;clear hF g m;go_enter func126,ntmps126;go_wp2_with fail;go_ret;exact⟨rfl,(zc _ _).alloc (by simp) _⟩
 |lit f=>simp only[zp]at d;subst d;have k:=Uh;clear hF g;go_enter func126,ntmps126;go_wp2_with fail;go_ret;exact⟨rfl,(zc _ _).alloc (by simp) _⟩|cls f=>simp only[zp]at d;obtain⟨u,rfl,_⟩:=d;have k:=Ue;clear hF g;go_enter func126,ntmps126;go_wp2_with fail;go_ret;exact⟨rfl,(zc _ _).alloc (by simp) _⟩
 |any=>simp only[zp]at d;subst d;have k:=Uc;clear hF g;go_enter func126,ntmps126;go_wp2_with fail;go_ret;exact⟨rfl,(zc _ _).alloc (by simp) _⟩|group c=>simp only[zp]at d;obtain⟨u,F,rfl,q,_⟩:=d;have k:=Uf;clear hF g q;go_enter func126,ntmps126;go_wp2_with fail;go_ret;exact⟨rfl,(zc _ _).alloc (by simp) _⟩
theorem zhR(w:World)(a b:UInt8)(t:TypeId)(x:Value):Calls P 129 #[.agg #[I .u8 a.toNat,.iface t x,I .u8 b.toNat]] w λe f=>e=.returned (.bool (b==42||b==43))/\Below w.heap.size w f:=by
 by_cases c:b=42;·subst c;go_enter func129,ntmps129;go_wp2_with fail;go_ret;exact⟨rfl,zc _ _⟩
 ·have g:=Q3 c 42 rfl;by_cases d:b=43;·subst d;go_enter func129,ntmps129;go_wp2_with fail;go_ret;exact⟨rfl,zc _ _⟩
  ·have h:=Q3 d 43 rfl;rw[show(b==42||b==43)=false from by simp[c,d]];clear c d;go_enter func129,ntmps129;go_wp2_with fail;go_ret;exact⟨rfl,zc _ _⟩
theorem zfZ(w:World)(k q l:Nat)(f:List z7)(E:List Bool)(A:Nat->Prop)(t:Term)(v:Value)(hF:Yq w k q l f E)(n:Zk w A t v):Calls P 128 #[QN t v,.pointer (S ⟨k,0,N⟩)] w λe D=>e=.returned (.bool (zJ (Eb f E) t))/\Below w.heap.size w D:=by
 obtain⟨a,j,b⟩:=t;simp only[Zk]at n;obtain⟨s,u,rfl⟩:=zp.oneCell n;have L:=zd hF.box;have G:zJ (Eb f E) (.mk a j b)=((b==42||b==43)&&Ze (Eb f E) j):=rfl;rw[G];simp only[QN,Term.ahead,Term.behind];obtain⟨W,m⟩:∃W,W=w.alloc (.cells #[I .u8 a.toNat,.iface s u,I .u8 b.toNat] 249):=⟨_,rfl⟩;have z:Below w.heap.size w W:=by rw[m];exact zc _ _
 have O:W.heap.size=w.heap.size+1:=by rw[m];simp
 have h:=zhR W a b s u;have J:∀c,Below W.heap.size W c->(∀o,c.cell? ⟨k,o,N⟩=(#[.map (S q),.slice (S ⟨l,0,N⟩) f.length f.length]:Array Value)[o]?)/\(∀o,c.cell? ⟨w.heap.size,o,N⟩=(#[I .u8 a.toNat,.iface s u,I .u8 b.toNat]:Array Value)[o]?)/\Calls P 130 #[zI q l f.length,.iface s u] c λe D=>e=.returned (.bool (Ze (Eb f E) j))/\Below c.heap.size c D:=by
  intro c d;have g:Below w.heap.size w c:=z.trans (d.mono (by omega));refine⟨λo=> ?_,λo=> ?_,zeC c q l f E A j _ (hF.facts.below g) (zp.kept (ZF g) j _ n)⟩;·rw[g.cell (p:=⟨k,o,N⟩) L];exact z8 hF.box o
  ·rw[d.cell (p:=⟨w.heap.size,o,N⟩) (by simp only[];omega),m];exact z8 (zk _ _) o
 have F:Hid (Below w.heap.size w W):=z;clear hF n G z;generalize Ze (Eb f E) j=r at *;have x:=(show Hid _ from J);clear J;go_enter func128,ntmps128;go_wp2_with fail;rw[<-m];cases i:(b==42||b==43)with
 |false=>rw[i]at h;refine h.mono ?_;rintro e c⟨rfl,d⟩;have g:Below w.heap.size w c:=F.out.trans (d.mono (by omega));have y:Hid ((b==42||b==43)=false):=i;clear h d x i;go_wp2_with fail;go_ret;exact⟨by rw[y.out];simp,g⟩
 |true=>rw[i]at h;refine h.mono ?_;rintro e c⟨rfl,d⟩;obtain⟨U,V,B⟩:=x.out c d;have R:=d.size;have g:Below w.heap.size w c:=F.out.trans (d.mono (by omega));simp only[zI]at B;have y:Hid ((b==42||b==43)=true):=i;clear h d x i;go_wp2_with fail;refine B.mono ?_;rintro e M⟨rfl,H⟩;have K:Below w.heap.size w M:=g.trans (H.mono (by omega));clear B H g;go_wp2_with fail;go_ret;exact⟨by rw[y.out];simp,K⟩
end
end Go.Proofs.YtiganlkabilblaaGreatDoor
