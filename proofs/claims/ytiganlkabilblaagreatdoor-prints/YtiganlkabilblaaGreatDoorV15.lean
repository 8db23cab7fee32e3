import Derived.Test.YtiganlkabilblaaGreatDoorV13
import Derived.Test.YtiganlkabilblaaGreatDoorV14
import Derived.Test.YtiganlkabilblaaGreatDoorV08
import Derived.Deep.CutRange
set_option linter.all false
set_option maxHeartbeats 64000000
set_option maxRecDepth 100000
namespace Go.Proofs.YtiganlkabilblaaGreatDoor
open Tryz
open Tryz renaming prog->P
open Option renaming some->S,none->N
open Value renaming int->I
open IntKind renaming i64->J
section
open Go.RowKit
attribute [local go_sem ↓] Go.wp_at_zero Go.wp_at_succ
def M0:MV:=⟨.slice N 0 0,.slice N 0 0,.slice N 0 0,[],[],[],[],false⟩
abbrev Jd(t:Tok)(a:Option Addr)(n c:Nat):Obj:=.cells #[I J (ZS t.kind),I J t.place,I J (zz t),.string ⟨(Z1 t).toArray⟩,.slice a n c] 206
structure QR(s:ByteArray)(w:World)(tb k:Nat)(M:MV)(lab:Nat->Nat)(a:Option Addr)(c:Nat)(wr:World):Prop where
 hk:k<=s.size
 mem:Mem wr (w.heap.size+1) (w.heap.size+1) M lab (· =0)
 below:Below w.heap.size w wr
 res:wr.heap[w.heap.size]?=some JZ
 tok:wr.heap[tb]?=some (Jd (zG k (s.data.toList.drop k)) a (zr (zG k (s.data.toList.drop k))).length c)
 items:Items wr (w.heap.size+1) (.slice a (zr (zG k (s.data.toList.drop k))).length c) (zr (zG k (s.data.toList.drop k)))
 rn:run (TL k (s.data.toList.drop k)) M.st=run (TL 0 s.data.toList) S0
 ok:Q5 M.st
 bd:Bd k M.st
 size:w.heap.size+2<=tb
theorem zdw{w w':World}{B:Nat}(h:w.heap[B]?=S (rdO (.slice N 0 0) (.slice N 0 0) (.slice N 0 0) [] false)):Mem w B B M0 (λ_=>0) (· =0):=⟨Nat.le_refl _,h,World.ownsRow_nil _ _ _ _,World.ownsRow_nil _ _ _ _,World.ownsRow_nil _ _ _ _,λp a=>(by cases a),λp a=>(by cases a),λk b=>(by simp[M0]at b)⟩
theorem QR.kept{s:ByteArray}{w:World}{e k:Nat}{M:MV}{d:Nat->Nat}{a:Option Addr}{c:Nat}{wr f:World}(h:QR s w e k M d a c wr)(b:Below wr.heap.size wr f):QR s w e k M d a c f:=by have g:=h.below.size;exact⟨h.hk,h.mem.below b (λ_ _=>rfl),h.below.trans (b.mono g),by rw[b.block _ (za h.res)];exact h.res,by rw[b.block _ (za h.tok)];exact h.tok,Zv h.items b,h.rn,h.ok,h.bd,h.size⟩
theorem YH(s:ByteArray)(k:Nat)(d:k<=s.size):zz (zG k (s.data.toList.drop k))<=s.size:=by
 unfold zz;split;·omega
 ·rename_i b;have c:=Kl ((s.data.toList.drop k).drop (blk false (s.data.toList.drop k))) (by simpa[zG]using b);have a:=Kb false (s.data.toList.drop k);rw[List.length_drop,List.length_drop]at c;rw[List.length_drop]at a;have e:s.data.toList.length=s.size:=rfl;simp only[zG];omega
theorem Mem.setLow{w:World}{B f:Nat}{M:MV}{j:Nat->Nat}{P:Nat->Prop}(h:Mem w B f M j P)(b o:Nat)(y:b<B)(u:Value):Mem (w.setCell ⟨b,o,N⟩ u) B f M j P:=by
 have c:=Chg.set b o u w;have z:=h.ge;have a:∀{e:TypeId} {t:Nat} {v:Value} {n:Nat} {x:List Value},w.ownsRow B e t v n x->v.ownBlock≠S b:=λq l=>by have:=(q.lt b l).1;omega
 exact⟨h.ge,by rw[c.same f h.lt (by omega)];exact h.blk,zq c h.ex (a h.ex),zq c h.ru (a h.ru),zq c h.op (a h.op),λp d=>zq c (h.items p d) (a (h.items p d)),λp d=>⟨zq c (h.parts p d).1 (a (h.parts p d).1),(h.parts p d).2⟩,λk m=>by obtain⟨g,r,i,s⟩:=h.opens k m;exact⟨zq c g (a g),r,zq c i (a i),s⟩⟩
theorem Mem.setTok{w:World}{B f:Nat}{M:MV}{j:Nat->Nat}{P:Nat->Prop}(h:Mem w B f M j P){b:Nat}{l:Array Value}(a:w.heap[b]?=S (.cells l 206 (0,0)))(o:Nat)(u:Value):Mem (w.setCell ⟨b,o,N⟩ u) B f M j P:=by
 have c:=Chg.set b o u w;have n:f≠b:=by intro e;subst e;rw[h.blk]at a;simp at a
 exact⟨h.ge,by rw[c.same f h.lt n];exact h.blk,zq c h.ex (zn h.ex a (by decide)),zq c h.ru (zn h.ru a (by decide)),zq c h.op (zn h.op a (by decide)),λp d=>zq c (h.items p d) (zn (h.items p d) a (by decide)),λp d=>⟨zq c (h.parts p d).1 (zn (h.parts p d).1 a (by decide)),(h.parts p d).2⟩,λk m=>by obtain⟨g,q,i,r⟩:=h.opens k m;exact⟨zq c g (zn g a (by decide)),q,zq c i (zn i a (by decide)),r⟩⟩
theorem UK{B a:Nat}{w b:World}(e:KT B w b){v:Value}{c:List zR}(h:Items w a v c):Items b a v c:=by refine Z6 h (λg i=> ?_);obtain⟨d,f⟩:=Qw h i;exact e.ty g d _ _ f (by decide)
theorem QR.goK{s:ByteArray}{w:World}{b k:Nat}{M:MV}{W:Nat->Nat}{a:Option Addr}{c:Nat}{E:World}(h:QR s w b k M W a c E){f:Nat}(O:f<=s.size){m:Tok}(A:m=zG f (s.data.toList.drop f)){i:Option Addr}{j:Nat}{d:World}(B:Items d (w.heap.size+1) (.slice i (zr m).length j) (zr m)){g:MV}{D:Nat->Nat}(H:Mem d (w.heap.size+1) (w.heap.size+1) g D (· =0))(e:KT (w.heap.size+1) E d)(V:run (TL k (s.data.toList.drop k)) M.st=run (TL f (s.data.toList.drop f)) g.st)(R:Q5 g.st)(L:Bd f g.st):QR s w b f g D i j (((((d.setCell ⟨b,0,N⟩ (I J (ZS m.kind))).setCell ⟨b,1,N⟩ (I J m.place)).setCell ⟨b,2,N⟩ (I J (zz m))).setCell ⟨b,3,N⟩ (.string ⟨(Z1 m).toArray⟩)).setCell ⟨b,4,N⟩ (.slice i (zr m).length j)):=by
 have u:d.heap[b]?=S (Jd (zG k (s.data.toList.drop k)) a (zr (zG k (s.data.toList.drop k))).length c):=by rw[e.ty b _ _ _ h.tok (by decide)];exact h.tok
 have Y:=h.size;have p:=Jo (o:=0) u (I J (ZS m.kind));have q:=Jo (o:=1) p (I J m.place);have r:=Jo (o:=2) q (I J (zz m));have t:=Jo (o:=3) r (.string ⟨(Z1 m).toArray⟩);have F:=Jo (o:=4) t (.slice i (zr m).length j);have v:=zq (Chg.set b 0 (I J (ZS m.kind)) d) B (zn B u (by decide));have x:=zq (Chg.set b 1 (I J m.place) _) v (zn v p (by decide));have y:=zq (Chg.set b 2 (I J (zz m)) _) x (zn x q (by decide));have z:=zq (Chg.set b 3 (.string ⟨(Z1 m).toArray⟩) _) y (zn y r (by decide));have G:=zq (Chg.set b 4 (.slice i (zr m).length j) _) z (zn z t (by decide));have K:Below w.heap.size w d:=h.below.trans ⟨e.os,e.tape,e.output,e.size,λk X=>e.low k (by omega)⟩;have l:w.heap.size<=b:=by omega
 have U:d.heap[w.heap.size]?=S JZ:=by rw[e.low _ (by omega)];exact h.res
 refine⟨O,((((H.setTok u _ _).setTok p _ _).setTok q _ _).setTok r _ _).setTok t _ _,((((K.setCell l _).setCell l _).setCell l _).setCell l _).setCell l _,?_,?_,?_,by rw[<-V];exact h.rn,R,L,h.size⟩
 ·have n:w.heap.size≠b:=by omega
  rw[Below.heap_setCell _ _ _ _ n,Below.heap_setCell _ _ _ _ n,Below.heap_setCell _ _ _ _ n,Below.heap_setCell _ _ _ _ n,Below.heap_setCell _ _ _ _ n];exact U
 ·rw[<-A];exact F
 ·rw[<-A];exact G
theorem QR.go{s:ByteArray}{w:World}{b k:Nat}{M:MV}{v:Nat->Nat}{a:Option Addr}{c:Nat}{g:World}(h:QR s w b k M v a c g){T m:Tok}(o:T=zG k (s.data.toList.drop k))(q:m=zG (zz T) (s.data.toList.drop (zz T))){e:Option Addr}{f:Nat}(r:Items g (w.heap.size+1) (.slice e (zr m).length f) (zr m)){i:World}{d:MV}{l:Nat->Nat}(n:Mem i (w.heap.size+1) (w.heap.size+1) d l (· =0))(j:KT (w.heap.size+1) g i)(u:run (TL k (s.data.toList.drop k)) M.st=run (TL (zz T) (s.data.toList.drop (zz T))) d.st)(t:Q5 d.st)(p:Bd (zz T) d.st):QR s w b (zz T) d l e f (((((i.setCell ⟨b,0,N⟩ (I J (ZS m.kind))).setCell ⟨b,1,N⟩ (I J m.place)).setCell ⟨b,2,N⟩ (I J (zz m))).setCell ⟨b,3,N⟩ (.string ⟨(Z1 m).toArray⟩)).setCell ⟨b,4,N⟩ (.slice e (zr m).length f)):=h.goK (by rw[o];exact YH s k h.hk) q (UK j r) n j u t p
theorem KT.of_below{B:Nat}{w b:World}(h:Below w.heap.size w b)(e:B<=w.heap.size):KT B w b:=⟨h.os,h.tape,h.output,h.size,λk a=>h.block k (by omega),λk c t d a _=>h.block k (za a)⟩
theorem zi9(w:World)(B c:Nat)(M:MV)(f:Nat->Nat)(h:Mem w B c M f (· =0))(u:Q5 M.st)(n:Nat)(d:Bd n M.st)(D:n<=2100):Calls P 98 #[.pointer (S ⟨c,0,N⟩)] w λq p=>QS w B c M.st.rule (.tuple #[]) q p:=by
 by_cases a:M.rs=[];·refine(zi8 w B c M f h a).mono ?_;rintro e p⟨rfl,v⟩;subst v;refine⟨rfl,M,f,h,KT.refl _ _,?_⟩;unfold ST.rule;rw[if_pos (show M.st.rs=[]from a)]
 ·have m:M.os≠[]:=by have:=u.ne a;simpa[MV.st]using this
  obtain⟨b,r,k⟩:∃b r,M.rs=b++[r]:=⟨M.rs.dropLast,M.rs.getLast a,(List.dropLast_concat_getLast a).symm⟩;obtain⟨i,g,j⟩:∃i g,M.os=i++[g]:=⟨M.os.dropLast,M.os.getLast m,(List.dropLast_concat_getLast m).symm⟩;have z:=d.xs;have y:=d.each g.1 (by simp[MV.st,j]);have x:M.st.xs.length=M.xs.length:=by simp[MV.st]
  have l:M.os.length<=7:=by have:=d.os;simpa[MV.st]using this
  have A:i.length<=7:=by rw[j]at l;simp at l;omega
  have o:M.rs.length<=20:=d.rs;have E:b.length<=20:=by rw[k]at o;simp at o;omega
  have t:M.st.rule={M.st.closed with rs:=b++[(r.1,M.xs.length+1)]}:=by unfold ST.rule;rw[if_neg (show M.st.rs≠[]from a)];have s:M.st.rs=b++[r]:=k;rw[s,x];simp[List.getLastD_concat]
  rw[t];exact zcq w B c M f h b r k i g j (by omega) (by omega) (by omega) (by omega)
def zaR(B:Nat)(f c:World)(a:MV)(e:z7):Prop:=∃b d,Mem c B B b d (· =0)/\KT B f c/\b.st={a.st with rs:=a.st.rs++[(e,0)]}
theorem zip{B:Nat}{b e:World}{a:MV}{j:Nat->Nat}(h:Mem b B B a j (· =0)){c:Option Addr}{d:Nat}(i:a.vr=.slice c a.rs.length d){k:z7}{O:Obj}{g f:Nat}(q:e.ownsRow B 90 2 (.slice (S ⟨g,0,N⟩) (a.rs.length+1) f) (a.rs.length+1) (a.rs.flatMap ruC++[.string ⟨k.toArray⟩,I J 0]))(p:((b.alloc O).drew).grownBy e (Value.slice c a.rs.length d).ownBlock)(o:(Value.slice c a.rs.length d).ownBlock=S g\/g=b.heap.size+1):zaR B b (e.setCell ⟨B,1,N⟩ (.slice (S ⟨g,0,N⟩) (a.rs.length+1) f)) a k:=by
 have n:Mem ((b.alloc O).drew) B B a j (· =0):=h.below (zc b O).drew (λ_ _=>rfl);have r:((b.alloc O).drew).heap.size=b.heap.size+1:=by show(b.alloc O).heap.size=_;simp
 obtain⟨l,m⟩:=n.pushRule q (by rw[i];exact p) (by rw[i,r];exact o);have s:=h.lt;exact⟨_,_,l,(KT.of_below (zc b O).drew (by omega)).trans m,by simp[MV.st]⟩
theorem Vf{s:ByteArray}{k:Nat}{T:Tok}(a:T=zG k (s.data.toList.drop k))(b:T.kind.last=false):TL k (s.data.toList.drop k)=T::TL (zz T) (s.data.toList.drop (zz T))/\k+1<=zz T:=by
 have c:=K9 k (s.data.toList.drop k);rw[<-a,if_neg (by simp[b])]at c;have g:=Kl ((s.data.toList.drop k).drop (blk false (s.data.toList.drop k))) (by rw[a]at b;exact b);have d:T.place=k+blk false (s.data.toList.drop k):=by rw[a];rfl
 have f:T.size=(zM ((s.data.toList.drop k).drop (blk false (s.data.toList.drop k)))).size:=by rw[a];rfl
 have e:zz T=T.place+T.size:=by unfold zz;rw[if_neg (by simp[b])]
 refine⟨?_,by omega⟩;rw[c,e,List.drop_drop,d, <-Nat.add_assoc]
def zdA(s:ByteArray)(w:World)(e:Ending)(a:World):Prop:=Below w.heap.size w a/\if 2000<s.size then e=.returned (.tuple #[ZP,I J 1,I J 0])else match run (TL 0 s.data.toList) S0 with| .error x=>e=.returned (.tuple #[ZP,I J x.1,I J x.2])| .ok b=>∃M c,e=.returned (.tuple #[.agg #[M.vx,M.vr],I J 0,I J 0])/\Mem a (w.heap.size+1) (w.heap.size+1) M c (· =0)/\M.st=b
theorem zi7(s:ByteArray)(w:World)(hs:s.size<=maxLen):Calls P 64 #[.string s] w λe w'=>zdA s w e w':=by
 by_cases hl:2000<s.size
 ·have de:(2000:Int)<s.size:=by omega
  have z:(s.size:Int)<=9223372036854775807:=by unfold maxLen at hs;omega
  go_enter func64,ntmps64;go_wp2_with fail;refine bodyPost_ret (v:=.tuple #[ZP,I J 1,I J 0]) (by simp[results,results64,go_sem];done) rfl ⟨zc w _,?_⟩;rw[if_pos hl]
 ·have de:¬(2000:Int)<s.size:=by omega
  have Y:=λk w' (hk:k<=s.size)=>zi0 s k w' (by omega) hk;have cz:=Y 0 ((w.alloc JZ).alloc (rdO (.slice N 0 0) (.slice N 0 0) (.slice N 0 0) [] false)) (by omega);have aU:=z6 Y;clear Y;go_enter func64,ntmps64;go_wp2_with fail;refine cz.mono ?_;rintro _ p⟨v,rfl,bf,bU⟩;obtain⟨a0,c0,rfl⟩:=zl bU;have dv:=bf.size;simp at dv;have cF:p.heap[w.heap.size]?=S JZ:=by rw[bf.block _ (by simp;omega),zm _ _ (by simp)];exact zk _ _
  have cE:p.heap[w.heap.size+1]?=S (rdO (.slice N 0 0) (.slice N 0 0) (.slice N 0 0) [] false):=by rw[bf.block _ (by simp)];exact Ji _ _ _ (by simp)
  have cj:QR s w p.heap.size 0 M0 (λ_=>0) a0 c0 (p.alloc (Jd (zG 0 (s.data.toList.drop 0)) a0 (zr (zG 0 (s.data.toList.drop 0))).length c0)):=by have F:Below w.heap.size w p:=((zc w _).alloc (by simp) _).trans (bf.mono (by simp;omega));refine⟨by omega,zdw (w':=w) (by rw[zm _ _ (by omega)];exact cE),F.alloc (by omega) _,by rw[zm _ _ (by omega)];exact cF,zk _ _,(Zn bU (by simp)).alloc _,by rw[List.drop_zero];rfl,Q5.zero,Bd.zero,by omega⟩
  have cb:=z6 cj;have HS:Hid (s.size<=2000):=(by omega:s.size<=2000);simp only[ZN];clear bU bf cj cz cF cE;go_wp2_with fail;go_loopg[7,8,9,10,11] (s.size+1) (λm _ _ _ _ _ wr=>∃(k:Nat) (M:MV) (aa:Nat->Nat) (a:Option Addr) (c:Nat),m=s.size+1-k/\Hid (QR s w p.heap.size k M aa a c wr));case atStart=>exact⟨0,M0,_,a0,c0,by omega,cb⟩
  case round=>
   obtain⟨k,M,aa,a,c,rfl,hI⟩:=hrel;have aG:=hI.out;obtain⟨T,hT⟩:∃T,T=zG k (s.data.toList.drop k):=⟨_,rfl⟩;have hk:=aG.hk;have bJ:=aG.tok;rw[<-hT]at bJ;have tq:=z8 bJ;have rq:=z8 aG.res;have rf:=zi aG.res;have ed:=aG.size;have ee:=za bJ;have mq:=z8 aG.mem.blk;have mf:=zi aG.mem.blk;have bR:=K9 k (s.data.toList.drop k);rw[<-hT]at bR;have HT:=z6 hT;have aW:=z6 bR;have dJ:=aG.below.size;have aY:w.heap.size<wr.heap.size:=by omega
   have b6:w.heap.size+1<wr.heap.size:=by omega
   clear aG bJ hT bR cb;cases j:T.kind with
   |bad=>
    as_aux_lemma=>
     have o:run (TL 0 s.data.toList) S0=.error (2,T.place):=by rw[<-hI.out.rn,aW.out];exact VQ j
     simp only[j,ZS]at tq;go_wp2_with fail;go_region;all_goals go_wp2_with fail
     all_goals refine bodyPost_ret (v:=.tuple #[ZP,I J 2,I J T.place]) (by simp[results,results64,go_sem,rq,aY];done) rfl ⟨?_,?_⟩
     ·exact((hI.out.below.setCell (Nat.le_refl _) _).setCell (Nat.le_refl _) _).drew
     ·rw[if_neg hl,o];rfl
   |fin=>
    as_aux_lemma=>
     have Y:=aU.out (zz T) wr (by rw[HT.out];exact YH s k hk);simp only[j,ZS]at tq;go_upto_region 8 with(first|(go_at_call 97;refine Y.mono ?_;rintro _ l⟨v2,rfl,F,D⟩;obtain⟨q,x,rfl⟩:=zl D;simp only[ZN]));obtain⟨m,z⟩:∃m,m=zG (zz T) (s.data.toList.drop (zz T)):=⟨_,rfl⟩;rw[<-z]at D;simp only[<-z];obtain⟨f,n⟩:∃f,f=l.alloc (Jd m q (zr m).length x):=⟨_,rfl⟩;have h:QR s w p.heap.size k M aa a c f:=by rw[n];exact hI.out.kept (F.alloc F.size _)
     have E:f.heap[l.heap.size]?=S (Jd m q (zr m).length x):=by rw[n];exact zk _ _
     have a8:Items f (w.heap.size+1) (.slice q (zr m).length x) (zr m):=by rw[n];exact(Zn D (by omega)).alloc _
     rw[<-n];have L:=h.tok;rw[<-HT.out]at L;have aq:=z8 L;simp only[j,ZS]at aq;have ao:=z8 h.res;have br:=zi h.res;have b9:=z8 E;obtain⟨xa,xc,U⟩:=zl h.mem.ex;obtain⟨ra,rc,R⟩:=zl h.mem.ru;obtain⟨oa,oc,O⟩:=zl h.mem.op;have B:=h.mem.blk;rw[U,R,O]at B;have al:=z8 B;have aS:=zi B;have bn:w.heap.size+2<f.heap.size:=by have:=h.size;have:=za h.tok;omega
     have am:w.heap.size<f.heap.size:=by omega
     have bo:w.heap.size+1<f.heap.size:=by omega
     have bp:p.heap.size<f.heap.size:=za h.tok;have bq:l.heap.size<f.heap.size:=za E;have ak:M.rs.length<=20:=h.bd.rs;have aA:M.os.length<=7:=by have:=h.bd.os;simpa[MV.st]using this
     have d:=z6 h;have HM:=z6 z;have aC:=z6 a8;have ag:=z6 U;have bd:=z6 R;have bc:=z6 O;clear h E a8 n D F Y tq rq rf mq mf aY b6 L B U R O z hI;have bl:run (TL 0 s.data.toList) S0=if M.rs=[]\/M.sign≠[]\/1<M.os.length then .error (2,T.place)else .ok M.st.rule:=by rw[<-d.out.rn,aW.out,VR j];simp[MV.st]
     have aE:=z6 bl;clear bl;by_cases i:M.rs=[]
     ·have a9:M.rs.length=0:=by rw[i];rfl
      have o:run (TL 0 s.data.toList) S0=.error (2,T.place):=by rw[aE.out,if_pos (.inl i)]
      rw[a9]at al;clear i ak a9;go_wp2_with fail;go_region;all_goals go_wp2_with fail
      all_goals refine bodyPost_ret (v:=.tuple #[ZP,I J 2,I J T.place]) (by simp[results,results64,go_sem,ao,am];done) rfl ⟨?_,?_⟩
      ·exact((d.out.below.setCell (Nat.le_refl _) _).setCell (Nat.le_refl _) _).drew
      ·rw[if_neg hl,o];rfl
     ·have bh:0<M.rs.length:=List.length_pos_iff.2 i;have bi:¬M.rs.length=0:=by omega
      by_cases V:M.sign=[]
      ·rw[V]at al;by_cases aH:1<M.os.length
       ·have o:run (TL 0 s.data.toList) S0=.error (2,T.place):=by rw[aE.out,if_pos (.inr (.inr aH))]
        clear i;go_wp2_with fail;go_region;all_goals go_wp2_with fail
        all_goals refine bodyPost_ret (v:=.tuple #[ZP,I J 2,I J T.place]) (by simp[results,results64,go_sem,ao,am];done) rfl ⟨?_,?_⟩
        ·exact((d.out.below.setCell (Nat.le_refl _) _).setCell (Nat.le_refl _) _).drew
        ·rw[if_neg hl,o];rfl
       ·have o:run (TL 0 s.data.toList) S0=.ok M.st.rule:=by
         rw[aE.out,if_neg];rintro(h'|h'|h');·exact i h'
         ·exact h' V
         ·exact aH h'
        have b2:=z6 o;have a1:M.os≠[]:=by have:=d.out.ok.ne i;simpa[MV.st]using this
        obtain⟨rr,r,bj⟩:∃rr r,M.rs=rr++[r]:=⟨M.rs.dropLast,M.rs.getLast i,(List.dropLast_concat_getLast i).symm⟩;obtain⟨mr,m0,a4⟩:∃mr m0,M.os=mr++[m0]:=⟨M.os.dropLast,M.os.getLast a1,(List.dropLast_concat_getLast a1).symm⟩;have bx:=d.out.bd.xs;have bw:=d.out.bd.each m0.1 (by simp[MV.st,a4]);have bm:M.st.xs.length=M.xs.length:=by simp[MV.st]
        have bC:mr.length<=7:=by have:=aA;rw[a4]at this;simp at this;omega
        have dk:rr.length<=20:=by have:=ak;rw[bj]at this;simp at this;omega
        have bk:=zcq f (w.heap.size+1) (w.heap.size+1) M aa d.out.mem rr r bj mr m0 a4 (by omega) (by omega) (by omega) (by omega);have dE:=z6 bj;have d5:Hid (M.st.rule={M.st.closed with rs:=rr++[(r.1,M.xs.length+1)]}):=by show _=_;unfold ST.rule;rw[if_neg (show M.st.rs≠[]from i)];have e1:M.st.rs=rr++[r]:=bj;rw[e1,bm];simp[List.getLastD_concat]
        have di:(M.os.length:Int)<=1:=by omega
        have d9:decide ((1:Int)<M.os.length)=false:=by simp;omega
        clear i a1 bj a4 o bx bw bm aH bC dk aA ak;go_wp2_with fail;refine bk.mono ?_;rintro _ w4⟨rfl,M4,cM,aj,az,b5⟩;have bY:w4.heap[w.heap.size]?=S JZ:=by rw[az.low _ (by omega)];exact d.out.res
        have dB:=z8 bY;have e8:=zi bY;have dw:=az.size;have dx:w.heap.size<w4.heap.size:=by omega
        obtain⟨cO,cP,b8⟩:=zl aj.ex;obtain⟨b0,b1,aQ⟩:=zl aj.ru;have ax:=aj.blk;rw[b8,aQ]at ax;have c3:=z8 ax;have bN:=z6 aj;have aT:=z6 az;have bt:=z6 b5;have cc:=z6 (And.intro b8 aQ);clear bk aj az b5 ax b8 aQ bY;go_wp2_with fail;refine bodyPost_ret (v:=.tuple #[.agg #[.slice cO M4.xs.length cP,.slice b0 M4.rs.length b1],I J 0,I J 0]) (by simp[results,results64,go_sem,dB,dx];done) rfl ⟨?_,?_⟩;·have d8:Below w.heap.size w w4:=d.out.below.trans ⟨aT.out.os,aT.out.tape,aT.out.output,aT.out.size,λk hk=>aT.out.low k (by omega)⟩;exact(d8.setCell (Nat.le_refl _) _).setCell (Nat.le_refl _) _
        ·rw[if_neg hl,b2.out];exact⟨M4,cM,by rw[cc.out.1,cc.out.2],(bN.out.setLow _ _ (by omega) _).setLow _ _ (by omega) _,by rw[bt.out,d5.out]⟩
      ·have dm:M.sign.isEmpty=false:=by simpa using V
       have o:run (TL 0 s.data.toList) S0=.error (2,T.place):=by rw[aE.out,if_pos (.inr (.inl V))]
       clear i V;go_wp2_with fail;go_region;all_goals go_wp2_with fail
       all_goals refine bodyPost_ret (v:=.tuple #[ZP,I J 2,I J T.place]) (by simp[results,results64,go_sem,ao,am];done) rfl ⟨?_,?_⟩
       ·exact((d.out.below.setCell (Nat.le_refl _) _).setCell (Nat.le_refl _) _).drew
       ·rw[if_neg hl,o];rfl
   |arrow=>
    as_aux_lemma=>
     have Y:=aU.out (zz T) wr (by rw[HT.out];exact YH s k hk);simp only[j,ZS]at tq;go_upto_region 8 with(first|(go_at_call 97;refine Y.mono ?_;rintro _ l⟨v2,rfl,F,D⟩;obtain⟨q,x,rfl⟩:=zl D;simp only[ZN]));obtain⟨m,z⟩:∃m,m=zG (zz T) (s.data.toList.drop (zz T)):=⟨_,rfl⟩;rw[<-z]at D;simp only[<-z];obtain⟨f,n⟩:∃f,f=l.alloc (Jd m q (zr m).length x):=⟨_,rfl⟩;have h:QR s w p.heap.size k M aa a c f:=by rw[n];exact hI.out.kept (F.alloc F.size _)
     have E:f.heap[l.heap.size]?=S (Jd m q (zr m).length x):=by rw[n];exact zk _ _
     have a8:Items f (w.heap.size+1) (.slice q (zr m).length x) (zr m):=by rw[n];exact(Zn D (by omega)).alloc _
     rw[<-n];have L:=h.tok;rw[<-HT.out]at L;have aq:=z8 L;simp only[j,ZS]at aq;have ao:=z8 h.res;have br:=zi h.res;have b9:=z8 E;obtain⟨xa,xc,U⟩:=zl h.mem.ex;obtain⟨ra,rc,R⟩:=zl h.mem.ru;obtain⟨oa,oc,O⟩:=zl h.mem.op;have B:=h.mem.blk;rw[U,R,O]at B;have al:=z8 B;have aS:=zi B;have bn:w.heap.size+2<f.heap.size:=by have:=h.size;have:=za h.tok;omega
     have am:w.heap.size<f.heap.size:=by omega
     have bo:w.heap.size+1<f.heap.size:=by omega
     have bp:p.heap.size<f.heap.size:=za h.tok;have bq:l.heap.size<f.heap.size:=za E;have ak:M.rs.length<=20:=h.bd.rs;have aA:M.os.length<=7:=by have:=h.bd.os;simpa[MV.st]using this
     have d:=z6 h;have HM:=z6 z;have aC:=z6 a8;have ag:=z6 U;have bd:=z6 R;have bc:=z6 O;clear h E a8 n D F Y tq rq rf mq mf aY b6 L B U R O z hI;have o:run (TL 0 s.data.toList) S0=.error (2,T.place):=by rw[<-d.out.rn,aW.out];exact KV j
     by_cases i:M.rs=[]
     ·have a9:M.rs.length=0:=by rw[i];rfl
      rw[a9]at al;have ah:=λw'=>VN w' (w.heap.size+1) 2 T.place (zz T) (ZS m.kind) m.place (zz m) ⟨(Z1 T).toArray⟩ ⟨(Z1 m).toArray⟩ a q (zr T).length c (zr m).length x;have ae:=z6 ah;clear i ak a9 ah;go_wp2_with fail;refine(ae.out f).mono ?_;rintro _ H⟨rfl,a5⟩;have A:=d.out.kept a5;have ap:=z8 A.res;have bs:=zi A.res;have an:w.heap.size<H.heap.size:=za A.res;have aB:=z6 A;clear a5 A ae;simp only[ZP];go_wp2_with fail;refine bodyPost_ret (v:=.tuple #[ZP,I J 2,I J T.place]) (by simp[results,results64,go_sem,ap,an];done) rfl ⟨?_,?_⟩;·exact(aB.out.below.setCell (Nat.le_refl _) _).setCell (Nat.le_refl _) _
      ·rw[if_neg hl,o];rfl
     ·have bh:0<M.rs.length:=List.length_pos_iff.2 i;have bi:¬M.rs.length=0:=by omega
      clear i;go_wp2_with fail;go_region;all_goals go_wp2_with fail
      all_goals refine bodyPost_ret (v:=.tuple #[ZP,I J 2,I J T.place]) (by simp[results,results64,go_sem,ao,am];done) rfl ⟨?_,?_⟩
      ·exact((d.out.below.setCell (Nat.le_refl _) _).setCell (Nat.le_refl _) _).drew
      ·rw[if_neg hl,o];rfl
   |lit=>
    as_aux_lemma=>
     have Y:=aU.out (zz T) wr (by rw[HT.out];exact YH s k hk);simp only[j,ZS]at tq;go_upto_region 8 with(first|(go_at_call 97;refine Y.mono ?_;rintro _ l⟨v2,rfl,F,D⟩;obtain⟨q,x,rfl⟩:=zl D;simp only[ZN]));obtain⟨m,z⟩:∃m,m=zG (zz T) (s.data.toList.drop (zz T)):=⟨_,rfl⟩;rw[<-z]at D;simp only[<-z];obtain⟨f,n⟩:∃f,f=l.alloc (Jd m q (zr m).length x):=⟨_,rfl⟩;have h:QR s w p.heap.size k M aa a c f:=by rw[n];exact hI.out.kept (F.alloc F.size _)
     have E:f.heap[l.heap.size]?=S (Jd m q (zr m).length x):=by rw[n];exact zk _ _
     have a8:Items f (w.heap.size+1) (.slice q (zr m).length x) (zr m):=by rw[n];exact(Zn D (by omega)).alloc _
     rw[<-n];have L:=h.tok;rw[<-HT.out]at L;have aq:=z8 L;simp only[j,ZS]at aq;have ao:=z8 h.res;have br:=zi h.res;have b9:=z8 E;obtain⟨xa,xc,U⟩:=zl h.mem.ex;obtain⟨ra,rc,R⟩:=zl h.mem.ru;obtain⟨oa,oc,O⟩:=zl h.mem.op;have B:=h.mem.blk;rw[U,R,O]at B;have al:=z8 B;have aS:=zi B;have bn:w.heap.size+2<f.heap.size:=by have:=h.size;have:=za h.tok;omega
     have am:w.heap.size<f.heap.size:=by omega
     have bo:w.heap.size+1<f.heap.size:=by omega
     have bp:p.heap.size<f.heap.size:=za h.tok;have bq:l.heap.size<f.heap.size:=za E;have ak:M.rs.length<=20:=h.bd.rs;have aA:M.os.length<=7:=by have:=h.bd.os;simpa[MV.st]using this
     have d:=z6 h;have af:=z6 E;have HM:=z6 z;have aC:=z6 a8;have ag:=z6 U;have bd:=z6 R;have bc:=z6 O;clear h E a8 n D F Y tq rq rf mq mf aY b6 L B U R O z hI;have ay:T.kind.last=false:=by rw[j];rfl
     obtain⟨av,aX⟩:=Vf HT.out ay;have aF:=z6 av;clear av ay;by_cases i:M.rs=[]
     ·have o:run (TL 0 s.data.toList) S0=.error (2,T.place):=by rw[<-d.out.rn,aW.out,run.eq_def];simp[j,MV.st,i]
      have a9:M.rs.length=0:=by rw[i];rfl
      rw[a9]at al;have ah:=λw'=>VN w' (w.heap.size+1) 3 T.place (zz T) (ZS m.kind) m.place (zz m) ⟨(Z1 T).toArray⟩ ⟨(Z1 m).toArray⟩ a q (zr T).length c (zr m).length x;have ae:=z6 ah;clear i ak a9 ah;go_wp2_with fail;refine(ae.out f).mono ?_;rintro _ H⟨rfl,a5⟩;have A:=d.out.kept a5;have ap:=z8 A.res;have bs:=zi A.res;have an:w.heap.size<H.heap.size:=za A.res;have aB:=z6 A;clear a5 A ae;simp only[ZP];go_wp2_with fail;refine bodyPost_ret (v:=.tuple #[ZP,I J 2,I J T.place]) (by simp[results,results64,go_sem,ap,an];done) rfl ⟨?_,?_⟩;·exact(aB.out.below.setCell (Nat.le_refl _) _).setCell (Nat.le_refl _) _
      ·rw[if_neg hl,o];rfl
     ·have bh:0<M.rs.length:=List.length_pos_iff.2 i;have bi:¬M.rs.length=0:=by omega
      have a1:M.os≠[]:=by have:=d.out.ok.ne i;simpa[MV.st]using this
      obtain⟨mr,m0,a4⟩:∃mr m0,M.os=mr++[m0]:=⟨M.os.dropLast,M.os.getLast a1,(List.dropLast_concat_getLast a1).symm⟩;have bx:=d.out.bd.xs;have bw:=d.out.bd.each m0.1 (by simp[MV.st,a4]);have bm:M.st.xs.length=M.xs.length:=by simp[MV.st]
      have bC:mr.length<=7:=by have:=aA;rw[a4]at this;simp at this;omega
      have cu:k<=2000:=by have:=HS.out;omega
      have hE:Zb T=⟨1,zr T,Z1 T,0,[]⟩:=by simp[Zb,zr,Z1,j,dup]
      obtain⟨h1,k1⟩:=d.out.mem.setSign [];have aN:Items (f.setCell ⟨w.heap.size+1,3,N⟩ (.string ⟨([]:z7).toArray⟩)) (w.heap.size+1) (.slice a (zr T).length c) (zr T):=by have hi:=d.out.items;rw[<-HT.out]at hi;exact UK k1 hi
      obtain⟨W,hW⟩:∃W,W=(f.setCell ⟨w.heap.size+1,3,N⟩ (.string ⟨([]:z7).toArray⟩)).alloc (.cells #[I J 1,.slice a (zr T).length c,.string ⟨(Z1 T).toArray⟩,I J 0,.slice N 0 0] 149):=⟨_,rfl⟩;have h2:Mem W (w.heap.size+1) (w.heap.size+1) {M with sign:=[]} aa (· =0):=by rw[hW];exact h1.below (zc _ _) (λ_ _=>rfl)
      have k2:KT (w.heap.size+1) f W:=by rw[hW];exact k1.trans (KT.alloc _ _ (by have:=k1.size;omega) _)
      have aO:Items W (w.heap.size+1) (.slice a (zr T).length c) (zr T):=by rw[hW];exact aN.alloc _
      have aw:=YG W (w.heap.size+1) (w.heap.size+1) xa xc M.xs.length M.vr M.vo [] M.may (M.xs.flatMap exC) 1 a (zr T).length c ⟨(Z1 T).toArray⟩ 0 N 0 0 (by rw[<-ag.out];exact h2.blk) (by rw[<-ag.out];exact h2.ex) (by omega) (Nat.le_refl _);simp only[show((1:Nat):Int)=1 from rfl]at aw;have H2:=z6 h2;have K2:=z6 k2;have bb:=z6 aO;have HO:=z6 a4;have ar:=z6 hE;have aV:=z6 i;have b3:=z6 (VJ d.out.ok.sg);have ce:=aS 3;clear i h1 k1 aN h2 k2 aO a4 a1 hE;have aR:W.heap[f.heap.size]?=S (.cells #[I J 1,.slice a (zr T).length c,.string ⟨(Z1 T).toArray⟩,I J 0,.slice N 0 0] 149):=by rw[hW];exact Ji _ _ _ (by simp)
      have xq:=z8 aR;clear aR;go_upto_region 17 with fail;rw[<-hW];clear hW;go_wp2_with fail;refine aw.mono ?_;rintro _ H⟨xg,cQ,rfl,aI⟩;obtain⟨a6,ad⟩:=H2.out.add (re:=Zb T) (iv:=.slice a (zr T).length c) (pv:=.slice N 0 0) (by rw[ag.out,ar.out];exact aI) (by rw[ar.out];exact bb.out) (by rw[ar.out];exact World.ownsRow_nil _ _ _ _) (λb hb=>by simp[Value.ownBlock]at hb);have aP:=VP H (w.heap.size+1) (w.heap.size+1) _ aa a6 mr m0 HO.out M.xs.length M.sign b3.out (by simp;omega) (by omega) (by omega);have ab:=z6 ad;clear aw aI a6 ad;go_wp2_with fail;refine aP.mono ?_;rintro _ y⟨rfl,M6,aZ,au,aJ,aK⟩;have K:KT (w.heap.size+1) f y:=K2.out.trans (ab.out.trans aJ);have a3:M6.st=M.st.lay (Zb T):=by rw[aK];simp[MV.st,ST.add,ST.lay]
      have aL:M.st.os≠[]:=by simp[MV.st,HO.out]
      have ai:=d.out.go HT.out HM.out aC.out au K (by rw[aF.out,zcw j (show M.st.rs≠[]from aV.out),a3]) (by rw[a3];exact d.out.ok.lay aL (qT T)) (by rw[a3];exact(d.out.bd.lay aL _).mono aX);have aD:=z6 ai;have G:y.heap[p.heap.size]?=_:=(K.ty _ _ _ _ d.out.tok (by decide)).trans d.out.tok;rw[<-HT.out]at G;have ca:=z8 G;have c9:=zi G;have X:y.heap[l.heap.size]?=_:=(K.ty _ _ _ _ af.out (by decide)).trans af.out;have c6:=z8 X;have c8:p.heap.size<y.heap.size:=za G;have bL:l.heap.size<y.heap.size:=za X;clear aP au aJ aK K a3 ai G X;go_wp2;go_roundg (s.size+1-zz T);case rel=>exact⟨zz T,M6,aZ,q,x,rfl,aD⟩
      case measure=>omega
   |cls=>
    as_aux_lemma=>
     have Y:=aU.out (zz T) wr (by rw[HT.out];exact YH s k hk);simp only[j,ZS]at tq;go_upto_region 8 with(first|(go_at_call 97;refine Y.mono ?_;rintro _ l⟨v2,rfl,F,D⟩;obtain⟨q,x,rfl⟩:=zl D;simp only[ZN]));obtain⟨m,z⟩:∃m,m=zG (zz T) (s.data.toList.drop (zz T)):=⟨_,rfl⟩;rw[<-z]at D;simp only[<-z];obtain⟨f,n⟩:∃f,f=l.alloc (Jd m q (zr m).length x):=⟨_,rfl⟩;have h:QR s w p.heap.size k M aa a c f:=by rw[n];exact hI.out.kept (F.alloc F.size _)
     have E:f.heap[l.heap.size]?=S (Jd m q (zr m).length x):=by rw[n];exact zk _ _
     have a8:Items f (w.heap.size+1) (.slice q (zr m).length x) (zr m):=by rw[n];exact(Zn D (by omega)).alloc _
     rw[<-n];have L:=h.tok;rw[<-HT.out]at L;have aq:=z8 L;simp only[j,ZS]at aq;have ao:=z8 h.res;have br:=zi h.res;have b9:=z8 E;obtain⟨xa,xc,U⟩:=zl h.mem.ex;obtain⟨ra,rc,R⟩:=zl h.mem.ru;obtain⟨oa,oc,O⟩:=zl h.mem.op;have B:=h.mem.blk;rw[U,R,O]at B;have al:=z8 B;have aS:=zi B;have bn:w.heap.size+2<f.heap.size:=by have:=h.size;have:=za h.tok;omega
     have am:w.heap.size<f.heap.size:=by omega
     have bo:w.heap.size+1<f.heap.size:=by omega
     have bp:p.heap.size<f.heap.size:=za h.tok;have bq:l.heap.size<f.heap.size:=za E;have ak:M.rs.length<=20:=h.bd.rs;have aA:M.os.length<=7:=by have:=h.bd.os;simpa[MV.st]using this
     have d:=z6 h;have af:=z6 E;have HM:=z6 z;have aC:=z6 a8;have ag:=z6 U;have bd:=z6 R;have bc:=z6 O;clear h E a8 n D F Y tq rq rf mq mf aY b6 L B U R O z hI;have ay:T.kind.last=false:=by rw[j];rfl
     obtain⟨av,aX⟩:=Vf HT.out ay;have aF:=z6 av;clear av ay;by_cases i:M.rs=[]
     ·have o:run (TL 0 s.data.toList) S0=.error (2,T.place):=by rw[<-d.out.rn,aW.out,run.eq_def];simp[j,MV.st,i]
      have a9:M.rs.length=0:=by rw[i];rfl
      rw[a9]at al;have ah:=λw'=>VN w' (w.heap.size+1) 4 T.place (zz T) (ZS m.kind) m.place (zz m) ⟨(Z1 T).toArray⟩ ⟨(Z1 m).toArray⟩ a q (zr T).length c (zr m).length x;have ae:=z6 ah;clear i ak a9 ah;go_wp2_with fail;refine(ae.out f).mono ?_;rintro _ H⟨rfl,a5⟩;have A:=d.out.kept a5;have ap:=z8 A.res;have bs:=zi A.res;have an:w.heap.size<H.heap.size:=za A.res;have aB:=z6 A;clear a5 A ae;simp only[ZP];go_wp2_with fail;refine bodyPost_ret (v:=.tuple #[ZP,I J 2,I J T.place]) (by simp[results,results64,go_sem,ap,an];done) rfl ⟨?_,?_⟩;·exact(aB.out.below.setCell (Nat.le_refl _) _).setCell (Nat.le_refl _) _
      ·rw[if_neg hl,o];rfl
     ·have bh:0<M.rs.length:=List.length_pos_iff.2 i;have bi:¬M.rs.length=0:=by omega
      have a1:M.os≠[]:=by have:=d.out.ok.ne i;simpa[MV.st]using this
      obtain⟨mr,m0,a4⟩:∃mr m0,M.os=mr++[m0]:=⟨M.os.dropLast,M.os.getLast a1,(List.dropLast_concat_getLast a1).symm⟩;have bx:=d.out.bd.xs;have bw:=d.out.bd.each m0.1 (by simp[MV.st,a4]);have bm:M.st.xs.length=M.xs.length:=by simp[MV.st]
      have bC:mr.length<=7:=by have:=aA;rw[a4]at this;simp at this;omega
      have cu:k<=2000:=by have:=HS.out;omega
      have hE:Zb T=⟨2,zr T,Z1 T,0,[]⟩:=by simp[Zb,zr,Z1,j,dup]
      obtain⟨h1,k1⟩:=d.out.mem.setSign [];have aN:Items (f.setCell ⟨w.heap.size+1,3,N⟩ (.string ⟨([]:z7).toArray⟩)) (w.heap.size+1) (.slice a (zr T).length c) (zr T):=by have hi:=d.out.items;rw[<-HT.out]at hi;exact UK k1 hi
      obtain⟨W,hW⟩:∃W,W=(f.setCell ⟨w.heap.size+1,3,N⟩ (.string ⟨([]:z7).toArray⟩)).alloc (.cells #[I J 2,.slice a (zr T).length c,.string ⟨(Z1 T).toArray⟩,I J 0,.slice N 0 0] 149):=⟨_,rfl⟩;have h2:Mem W (w.heap.size+1) (w.heap.size+1) {M with sign:=[]} aa (· =0):=by rw[hW];exact h1.below (zc _ _) (λ_ _=>rfl)
      have k2:KT (w.heap.size+1) f W:=by rw[hW];exact k1.trans (KT.alloc _ _ (by have:=k1.size;omega) _)
      have aO:Items W (w.heap.size+1) (.slice a (zr T).length c) (zr T):=by rw[hW];exact aN.alloc _
      have aw:=YG W (w.heap.size+1) (w.heap.size+1) xa xc M.xs.length M.vr M.vo [] M.may (M.xs.flatMap exC) 2 a (zr T).length c ⟨(Z1 T).toArray⟩ 0 N 0 0 (by rw[<-ag.out];exact h2.blk) (by rw[<-ag.out];exact h2.ex) (by omega) (Nat.le_refl _);simp only[show((2:Nat):Int)=2 from rfl]at aw;have H2:=z6 h2;have K2:=z6 k2;have bb:=z6 aO;have HO:=z6 a4;have ar:=z6 hE;have aV:=z6 i;have b3:=z6 (VJ d.out.ok.sg);have ce:=aS 3;clear i h1 k1 aN h2 k2 aO a4 a1 hE;have aR:W.heap[f.heap.size]?=S (.cells #[I J 2,.slice a (zr T).length c,.string ⟨(Z1 T).toArray⟩,I J 0,.slice N 0 0] 149):=by rw[hW];exact Ji _ _ _ (by simp)
      have xq:=z8 aR;clear aR;go_upto_region 17 with fail;rw[<-hW];clear hW;go_wp2_with fail;refine aw.mono ?_;rintro _ H⟨xg,cQ,rfl,aI⟩;obtain⟨a6,ad⟩:=H2.out.add (re:=Zb T) (iv:=.slice a (zr T).length c) (pv:=.slice N 0 0) (by rw[ag.out,ar.out];exact aI) (by rw[ar.out];exact bb.out) (by rw[ar.out];exact World.ownsRow_nil _ _ _ _) (λb hb=>by simp[Value.ownBlock]at hb);have aP:=VP H (w.heap.size+1) (w.heap.size+1) _ aa a6 mr m0 HO.out M.xs.length M.sign b3.out (by simp;omega) (by omega) (by omega);have ab:=z6 ad;clear aw aI a6 ad;go_wp2_with fail;refine aP.mono ?_;rintro _ y⟨rfl,M6,aZ,au,aJ,aK⟩;have K:KT (w.heap.size+1) f y:=K2.out.trans (ab.out.trans aJ);have a3:M6.st=M.st.lay (Zb T):=by rw[aK];simp[MV.st,ST.add,ST.lay]
      have aL:M.st.os≠[]:=by simp[MV.st,HO.out]
      have ai:=d.out.go HT.out HM.out aC.out au K (by rw[aF.out,zcv j (show M.st.rs≠[]from aV.out),a3]) (by rw[a3];exact d.out.ok.lay aL (qT T)) (by rw[a3];exact(d.out.bd.lay aL _).mono aX);have aD:=z6 ai;have G:y.heap[p.heap.size]?=_:=(K.ty _ _ _ _ d.out.tok (by decide)).trans d.out.tok;rw[<-HT.out]at G;have ca:=z8 G;have c9:=zi G;have X:y.heap[l.heap.size]?=_:=(K.ty _ _ _ _ af.out (by decide)).trans af.out;have c6:=z8 X;have c8:p.heap.size<y.heap.size:=za G;have bL:l.heap.size<y.heap.size:=za X;clear aP au aJ aK K a3 ai G X;go_wp2;go_roundg (s.size+1-zz T);case rel=>exact⟨zz T,M6,aZ,q,x,rfl,aD⟩
      case measure=>omega
   |sign ch=>
    as_aux_lemma=>
     have Y:=aU.out (zz T) wr (by rw[HT.out];exact YH s k hk);simp only[j,ZS]at tq;go_upto_region 8 with(first|(go_at_call 97;refine Y.mono ?_;rintro _ l⟨v2,rfl,F,D⟩;obtain⟨q,x,rfl⟩:=zl D;simp only[ZN]));obtain⟨m,z⟩:∃m,m=zG (zz T) (s.data.toList.drop (zz T)):=⟨_,rfl⟩;rw[<-z]at D;simp only[<-z];obtain⟨f,n⟩:∃f,f=l.alloc (Jd m q (zr m).length x):=⟨_,rfl⟩;have h:QR s w p.heap.size k M aa a c f:=by rw[n];exact hI.out.kept (F.alloc F.size _)
     have E:f.heap[l.heap.size]?=S (Jd m q (zr m).length x):=by rw[n];exact zk _ _
     have a8:Items f (w.heap.size+1) (.slice q (zr m).length x) (zr m):=by rw[n];exact(Zn D (by omega)).alloc _
     rw[<-n];have L:=h.tok;rw[<-HT.out]at L;have aq:=z8 L;simp only[j,ZS]at aq;have ao:=z8 h.res;have br:=zi h.res;have b9:=z8 E;obtain⟨xa,xc,U⟩:=zl h.mem.ex;obtain⟨ra,rc,R⟩:=zl h.mem.ru;obtain⟨oa,oc,O⟩:=zl h.mem.op;have B:=h.mem.blk;rw[U,R,O]at B;have al:=z8 B;have aS:=zi B;have bn:w.heap.size+2<f.heap.size:=by have:=h.size;have:=za h.tok;omega
     have am:w.heap.size<f.heap.size:=by omega
     have bo:w.heap.size+1<f.heap.size:=by omega
     have bp:p.heap.size<f.heap.size:=za h.tok;have bq:l.heap.size<f.heap.size:=za E;have ak:M.rs.length<=20:=h.bd.rs;have aA:M.os.length<=7:=by have:=h.bd.os;simpa[MV.st]using this
     have d:=z6 h;have af:=z6 E;have HM:=z6 z;have aC:=z6 a8;have ag:=z6 U;have bd:=z6 R;have bc:=z6 O;clear h E a8 n D F Y tq rq rf mq mf aY b6 L B U R O z hI;have ay:T.kind.last=false:=by rw[j];rfl
     obtain⟨av,aX⟩:=Vf HT.out ay;have aF:=z6 av;have ct:Qf ch=true:=by
      have:=qa ((s.data.toList.drop k).drop (blk false (s.data.toList.drop k)));have e:(zM ((s.data.toList.drop k).drop (blk false (s.data.toList.drop k)))).kind=T.kind:=by rw[HT.out];rfl
      rw[e,j]at this;exact this
     have bF:Z1 T=[ch]:=by simp[Z1,j]
     rw[bF]at aq;clear av ay;by_cases i:M.rs=[]
     ·have o:run (TL 0 s.data.toList) S0=.error (2,T.place):=by rw[<-d.out.rn,aW.out,run.eq_def];simp[j,MV.st,i]
      have a9:M.rs.length=0:=by rw[i];rfl
      rw[a9]at al;have ah:=λw'=>VN w' (w.heap.size+1) 5 T.place (zz T) (ZS m.kind) m.place (zz m) ⟨[ch].toArray⟩ ⟨(Z1 m).toArray⟩ a q (zr T).length c (zr m).length x;have ae:=z6 ah;clear i ak a9 ah bF;go_wp2_with fail;refine(ae.out f).mono ?_;rintro _ H⟨rfl,a5⟩;have A:=d.out.kept a5;have ap:=z8 A.res;have bs:=zi A.res;have an:w.heap.size<H.heap.size:=za A.res;have aB:=z6 A;clear a5 A ae;simp only[ZP];go_wp2_with fail;refine bodyPost_ret (v:=.tuple #[ZP,I J 2,I J T.place]) (by simp[results,results64,go_sem,ap,an];done) rfl ⟨?_,?_⟩;·exact(aB.out.below.setCell (Nat.le_refl _) _).setCell (Nat.le_refl _) _
      ·rw[if_neg hl,o];rfl
     ·have bh:0<M.rs.length:=List.length_pos_iff.2 i;have bi:¬M.rs.length=0:=by omega
      have a1:M.os≠[]:=by have:=d.out.ok.ne i;simpa[MV.st]using this
      have V:=zia f (w.heap.size+1) (w.heap.size+1) M aa d.out.mem d.out.ok k d.out.bd (by have:=HS.out;omega) a1 ch ct;have aV:=z6 i;cases aM:M.st.signs ch with
      |error er=>
       simp only[U8,aM]at V;have o:run (TL 0 s.data.toList) S0=.error (er,T.place):=by rw[<-d.out.rn,aW.out,JW j (show M.st.rs≠[]from i),aM]
       have da:=zcK aM;have b2:=z6 o;clear i a1 o bF aM;go_wp2_with fail;refine V.mono ?_;rintro _ H⟨rfl,ad⟩;have bE:H.heap[w.heap.size]?=S JZ:=by rw[ad.low _ (by omega)];exact d.out.res
       have ap:=z8 bE;have bs:=zi bE;have an:w.heap.size<H.heap.size:=za bE;have bH:H.heap[p.heap.size]?=_:=(ad.ty _ _ _ _ d.out.tok (by decide)).trans d.out.tok;rw[<-HT.out]at bH;have eb:=z8 bH;have dX:p.heap.size<H.heap.size:=za bH;have ab:=z6 ad;clear V bE bH ad;rcases da with rfl|rfl
       ·go_wp2_with fail;go_region;all_goals go_wp2_with fail
        all_goals refine bodyPost_ret (v:=.tuple #[ZP,I J 2,I J T.place]) (by simp[results,results64,go_sem,ap,an];done) rfl ⟨?_,?_⟩
        ·have a5:Below w.heap.size w H:=d.out.below.trans ⟨ab.out.os,ab.out.tape,ab.out.output,ab.out.size,λk hk=>ab.out.low k (by omega)⟩;exact((a5.setCell (Nat.le_refl _) _).setCell (Nat.le_refl _) _).drew
        ·rw[if_neg hl,b2.out];rfl
       ·go_wp2_with fail;go_region;all_goals go_wp2_with fail
        all_goals refine bodyPost_ret (v:=.tuple #[ZP,I J 3,I J T.place]) (by simp[results,results64,go_sem,ap,an];done) rfl ⟨?_,?_⟩
        ·have a5:Below w.heap.size w H:=d.out.below.trans ⟨ab.out.os,ab.out.tape,ab.out.output,ab.out.size,λk hk=>ab.out.low k (by omega)⟩;exact((a5.setCell (Nat.le_refl _) _).setCell (Nat.le_refl _) _).drew
        ·rw[if_neg hl,b2.out];rfl
      |ok S'=>
       simp only[U8,aM]at V;obtain⟨g1,g2,g3,g4⟩:=ziL d.out.ok d.out.bd (by simpa[MV.st]using a1) (show M.st.rs≠[]from i) ct aM;have d3:=z6 aM;clear i a1 bF aM;go_wp2_with fail;refine V.mono ?_;rintro _ y⟨rfl,M6,aZ,au,K,a3⟩;have ai:=d.out.go HT.out HM.out aC.out au K (by rw[aF.out,JW j (show M.st.rs≠[]from aV.out),d3.out,a3]) (by rw[a3];exact g1) (by rw[a3];exact g2.mono aX);have aD:=z6 ai;have G:y.heap[p.heap.size]?=_:=(K.ty _ _ _ _ d.out.tok (by decide)).trans d.out.tok;rw[<-HT.out]at G;have ca:=z8 G;have c9:=zi G;have X:y.heap[l.heap.size]?=_:=(K.ty _ _ _ _ af.out (by decide)).trans af.out;have c6:=z8 X;have c8:p.heap.size<y.heap.size:=za G;have bL:l.heap.size<y.heap.size:=za X;clear V au K a3 ai G X g1 g2 g3 g4;go_wp2;go_roundg (s.size+1-zz T);case rel=>exact⟨zz T,M6,aZ,q,x,rfl,aD⟩
       case measure=>omega
   |name=>
    as_aux_lemma=>
     have Y:=aU.out (zz T) wr (by rw[HT.out];exact YH s k hk);simp only[j,ZS]at tq;go_upto_region 8 with(first|(go_at_call 97;refine Y.mono ?_;rintro _ l⟨v2,rfl,F,D⟩;obtain⟨q,x,rfl⟩:=zl D;simp only[ZN]));obtain⟨m,z⟩:∃m,m=zG (zz T) (s.data.toList.drop (zz T)):=⟨_,rfl⟩;rw[<-z]at D;simp only[<-z];obtain⟨f,n⟩:∃f,f=l.alloc (Jd m q (zr m).length x):=⟨_,rfl⟩;have h:QR s w p.heap.size k M aa a c f:=by rw[n];exact hI.out.kept (F.alloc F.size _)
     have E:f.heap[l.heap.size]?=S (Jd m q (zr m).length x):=by rw[n];exact zk _ _
     have a8:Items f (w.heap.size+1) (.slice q (zr m).length x) (zr m):=by rw[n];exact(Zn D (by omega)).alloc _
     rw[<-n];have L:=h.tok;rw[<-HT.out]at L;have aq:=z8 L;simp only[j,ZS]at aq;have ao:=z8 h.res;have br:=zi h.res;have b9:=z8 E;obtain⟨xa,xc,U⟩:=zl h.mem.ex;obtain⟨ra,rc,R⟩:=zl h.mem.ru;obtain⟨oa,oc,O⟩:=zl h.mem.op;have B:=h.mem.blk;rw[U,R,O]at B;have al:=z8 B;have aS:=zi B;have bn:w.heap.size+2<f.heap.size:=by have:=h.size;have:=za h.tok;omega
     have am:w.heap.size<f.heap.size:=by omega
     have bo:w.heap.size+1<f.heap.size:=by omega
     have bp:p.heap.size<f.heap.size:=za h.tok;have bq:l.heap.size<f.heap.size:=za E;have ak:M.rs.length<=20:=h.bd.rs;have aA:M.os.length<=7:=by have:=h.bd.os;simpa[MV.st]using this
     have d:=z6 h;have af:=z6 E;have HM:=z6 z;have aC:=z6 a8;have ag:=z6 U;have bd:=z6 R;have bc:=z6 O;clear h E a8 n D F Y tq rq rf mq mf aY b6 L B U R O z hI;have ay:T.kind.last=false:=by rw[j];rfl
     obtain⟨av,aX⟩:=Vf HT.out ay;have aF:=z6 av;clear av ay;have bB:TL (zz T) (s.data.toList.drop (zz T))=m::(TL (zz T) (s.data.toList.drop (zz T))).tail:=by have:=K9 (zz T) (s.data.toList.drop (zz T));rw[<-HM.out]at this;rw[this];rfl
     by_cases be:m.kind.isArrow=true
     ·have cv:m.kind=.arrow:=by cases hq:m.kind<;>simp[hq,TK.isArrow]at be|-
      have bl:run (TL 0 s.data.toList) S0=if M.sign≠[]\/1<M.os.length then .error (2,m.place)else if 20<=M.rs.length then .error (4,m.place)else run (TL (zz T) (s.data.toList.drop (zz T))).tail (M.st.begin T.text):=by
       rw[<-d.out.rn,aF.out];conv=>{lhs;rw[bB]}
       have e:M.st.os.length=M.os.length:=by simp[MV.st]
       rw[UZ j be,e];rfl
      have aE:=z6 bl;simp only[cv,ZS]at b9;have dh:l.heap.size≠w.heap.size:=by intro e;have h1:=d.out.res;rw[<-e,af.out]at h1;simp at h1
      have dN:¬w.heap.size=l.heap.size:=λe=>dh e.symm;clear bl bB be;by_cases V:M.sign=[]
      ·rw[V]at al;by_cases aH:1<M.os.length
       ·have o:run (TL 0 s.data.toList) S0=.error (2,m.place):=by rw[aE.out,if_pos (.inr aH)]
        go_wp2_with fail;go_region;all_goals go_wp2_with fail
        all_goals refine bodyPost_ret (v:=.tuple #[ZP,I J 2,I J m.place]) (by simp[results,results64,go_sem,ao,am];done) rfl ⟨?_,?_⟩
        ·exact((d.out.below.setCell (Nat.le_refl _) _).setCell (Nat.le_refl _) _).drew
        ·rw[if_neg hl,o];rfl
       ·have di:(M.os.length:Int)<=1:=by omega
        have d9:decide ((1:Int)<M.os.length)=false:=by simp;omega
        by_cases cg:20<=M.rs.length
        ·have o:run (TL 0 s.data.toList) S0=.error (4,m.place):=by rw[aE.out,if_neg (by rintro(h'|h');exact h' V;exact aH h'),if_pos cg]
         clear aH;go_wp2_with fail;go_region;all_goals go_wp2_with fail
         all_goals refine bodyPost_ret (v:=.tuple #[ZP,I J 4,I J m.place]) (by simp[results,results64,go_sem,ao,am];done) rfl ⟨?_,?_⟩
         ·exact((d.out.below.setCell (Nat.le_refl _) _).setCell (Nat.le_refl _) _).drew
         ·rw[if_neg hl,o];rfl
        ·have o:run (TL 0 s.data.toList) S0=run (TL (zz T) (s.data.toList.drop (zz T))).tail (M.st.begin T.text):=by rw[aE.out,if_neg (by rintro(h'|h');exact h' V;exact aH h'),if_neg cg]
         have b2:=z6 o;obtain⟨cx,dL⟩:=Vf HM.out (by rw[cv];rfl);have cX:=z6 cx;have dd:zz T<=s.size:=by rw[HT.out];exact YH s k hk
         have cw:zz m<=s.size:=by rw[HM.out];exact YH s _ dd
         have dI:(M.rs.length:Int)<20:=by omega
         have bk:=zi9 f (w.heap.size+1) (w.heap.size+1) M aa d.out.mem d.out.ok k d.out.bd (by have:=HS.out;omega);have cH:Q5 (M.st.begin T.text):=d.out.ok.begin T.text V;have cq:Bd (zz m) (M.st.begin T.text):=(d.out.bd.begin (by simp[MV.st];omega) (by have:M.st.rs.length=M.rs.length:=rfl;omega) T.text d.out.ok.ne).mono (by omega);have bO:=z6 (And.intro cH cq);have cG:Z1 T=T.text:=by simp[Z1,j]
         have d0:=z6 cG;clear cG;have b3:=z6 V;clear aH o cx cH cq V;go_wp2_with fail;refine bk.mono ?_;rintro _ w4⟨rfl,M4,cM,aj,az,b5⟩;have dw:=az.size;have dj:w4.heap[w.heap.size]?=S JZ:=by rw[az.low _ (by omega)];exact d.out.res
         have bG:w4.heap[p.heap.size]?=_:=(az.ty _ _ _ _ d.out.tok (by decide)).trans d.out.tok;rw[<-HT.out]at bG;have dC:=z8 bG;obtain⟨cO,cP,b8⟩:=zl aj.ex;obtain⟨b0,b1,aQ⟩:=zl aj.ru;obtain⟨e0,e3,cJ⟩:=zl aj.op;have ax:=aj.blk;rw[b8,aQ,cJ]at ax;have c3:=z8 ax;have cN:=zi ax;have dy:w.heap.size+1<w4.heap.size:=za ax;have dV:p.heap.size<w4.heap.size:=za bG;have dl:M4.rs.length=M.rs.length:=by
          have:M4.st.rs=M.st.rule.rs:=by rw[b5]
          have e1:M4.rs=M.st.rule.rs:=this;rw[e1];unfold ST.rule;split;·rfl
          ·rename_i dg;have:0<M.st.rs.length:=List.length_pos_iff.2 dg;simp;have e2:M.st.rs.length=M.rs.length:=rfl;omega
         have dR:M4.rs.length<=20:=by omega
         clear dl;obtain⟨i1,db,ds,dt,du⟩:=info_parts infoRRule;have bX:w4.ownsRow (w.heap.size+1) 90 2 (.slice b0 M4.rs.length b1) M4.rs.length (M4.rs.flatMap ruC):=by rw[<-aQ];exact aj.ru
         have cZ:=z6 bX;have cB:((w4.alloc (.cells #[.string ⟨(Z1 T).toArray⟩,I J 0] 90)).drew).heap[w4.heap.size]?=S (.cells #[.string ⟨(Z1 T).toArray⟩,I J 0] 90 (0,0)):=zk _ _;have cY:=z6 cB;have cR:Hid (∀u∈[Value.string ⟨(Z1 T).toArray⟩,I J 0],u.oneCell'=true):=by intro u hu;simp at hu;rcases hu with rfl|rfl<;>rfl
         have cV:Hid (M4.rs.length+1<=maxLen):=by show _<=_;unfold maxLen;omega
         have n1:S (w.heap.size+1)≠(Value.slice b0 M4.rs.length b1).ownBlock:=λe=>zn bX ax (by decide) e.symm;have bN:=z6 aj;have aT:=z6 az;have bt:=z6 b5;have d6:=z6 aQ;have dD:=z6 ax;clear bk aj az b5 dj b8 aQ cJ bX cB ax bG;go_wp2_with fail;go_cut [9]from 20 to 197 (λe9 wx=>e9=I J 0/\zaR (w.heap.size+1) w4 wx M4 (Z1 T));case first=>
          have z1:w4.cell? ⟨w.heap.size+1,1,N⟩=S (.slice b0 M4.rs.length b1):=c3 1;have z2:(w4.alloc (.cells #[.string ⟨(Z1 T).toArray⟩,I J 0] 90)).cell? ⟨w.heap.size+1,1,N⟩=S (.slice b0 M4.rs.length b1):=by rw[World.cell?_alloc_lt _ _ _ dy];exact z1
          have z3:(w4.alloc (.cells #[.string ⟨(Z1 T).toArray⟩,I J 0] 90)).frozen? ⟨w.heap.size+1,1,N⟩=false:=by rw[World.frozen?_alloc_old _ _ _ (by simp only[];omega)];exact cN 1
          go_region_law ((refine step_append_lies _ (by rfl) _ _ _ (by rfl) (w.heap.size+1) 90 i1 _ 2 24 underlying83 db ds dt du (by rfl) (by decide) _ _ _ (by rfl) (cZ.out.alloc _) ⟨w4.heap.size,0,N⟩ 1 1 [.string ⟨(Z1 T).toArray⟩,I J 0] (by rfl) (by rfl) (World.news_of_block cY.out) cR.out (by decide) cV.out (by omega) (by simp;omega) (w4.heap.size+1) (by simp) ?_;intro g dH H cC bA co dM;have y1:=(bA.frozen_far ⟨w.heap.size+1,1,N⟩ (by simp;omega) n1).trans z3;have y2:H.cell? ⟨w.heap.size+1,1,N⟩=S (.slice b0 M4.rs.length b1):=(bA.cell_far ⟨w.heap.size+1,1,N⟩ (by simp;omega) n1).trans z2;have HP:=z6 (zip bN.out d6.out cC bA co);clear cC bA co));all_goals(try go_wp2_with fail)
          all_goals go_meet
          all_goals exact⟨rfl,HP.out⟩
         case rest=>
          obtain⟨rfl,hC⟩:=hcut;obtain⟨Z,bZ,a6,ad,bQ⟩:=hC;have ck:=aT.out.trans ad;have dP:Z.os.length<=6:=by
           have h1:=bO.out.2.os;have h2:Z.st.os=M.st.rule.os:=by rw[bQ, <-bt.out]
           have h3:(M.st.begin T.text).os=M.st.rule.os++[⟨[],[],[]⟩]:=rfl;rw[h3, <-h2]at h1;simp[MV.st]at h1;exact h1
          obtain⟨ef,eg,cL⟩:=zl a6.ex;obtain⟨e4,e7,cK⟩:=zl a6.ru;obtain⟨dz,dA,bK⟩:=zl a6.op;have bg:=a6.blk;have cr:=a6.blk;rw[cL,cK,bK]at bg;have dT:=z8 bg;have dS:=zi bg;have dW:w.heap.size+1<wc.heap.size:=za bg;have bW:wc.ownsRow (w.heap.size+1) 209 3 (.slice dz Z.os.length dA) Z.os.length (Z.os.flatMap opC):=by rw[<-bK];exact a6.op
          obtain⟨i2,dc,dp,dq,dr⟩:=info_parts infoOpen;have cW:Hid (Z.os.length+1<=maxLen):=by show _<=_;unfold maxLen;omega
          have cU:=z6 a6;have bM:=z6 ck;have d1:=z6 bQ;have cd:=z6 bK;have cS:=z6 cr;clear a6 ad bQ ck cL cK bK bg cr c3 cN dC;go_wp2_with(first|(at_builtin;refine wpList_append_lies _ rfl _ _ 202 rfl (w.heap.size+1) 209 i2 _ 3 64 underlying202 dc dp dq dr rfl (by decide) _ _ _ rfl (bW.alloc _) ⟨wc.heap.size,0,N⟩ 1 1 [.slice N 0 0,.slice N 0 0,.string ⟨#[]⟩] rfl rfl ?c1 ?c2 (by decide) cW.out ?c4 ?c5 (wc.heap.size+1) (by simp) ?_));case c2=>exact⟨rfl,rfl⟩
          case c4=>omega
          case c5=>omega
          intro g6 b4 y cD bT cp dK;have cm:=cU.out.below (lab':=bZ) (w':=wc.alloc (.cells #[.slice N 0 0,.slice N 0 0,.string ⟨#[]⟩] 209)) (zc _ _) (λ_ _=>rfl);have d7:=cm.pushOpen (sg:=[]) cD (by rw[cd.out];exact bT) (by rw[cd.out];simpa using cp);have bD:∀{b:Nat} {cs:Array Value} {t:TypeId},wc.heap[b]?=S (.cells cs t (0,0))->209≠t->y.heap[b]?=S (.cells cs t (0,0)):=by intro b cs t hb ht;rw[bT.block b (by simp;have:=za hb;omega) (λe=>zn bW hb ht e.symm),zm _ _ (za hb)];exact hb
          have b7:=bD cS.out (by decide);have cI:wc.heap[p.heap.size]?=_:=(bM.out.ty _ _ _ _ d.out.tok (by decide)).trans d.out.tok;have cy:wc.heap[l.heap.size]?=_:=(bM.out.ty _ _ _ _ af.out (by decide)).trans af.out;have G:=bD cI (by decide);have X:=bD cy (by decide);have d2:y.cell? ⟨w.heap.size+1,2,N⟩=S Z.vo:=z8 b7 2;have d4:y.cell? ⟨w.heap.size+1,4,N⟩=S (.bool Z.may):=z8 b7 4;have df:=zi b7;have dU:=z8 X;have dY:w.heap.size+1<y.heap.size:=za b7;have bL:l.heap.size<y.heap.size:=za X;have dO:¬l.heap.size=w.heap.size+1:=by intro e;rw[e,b7]at X;simp at X
          obtain⟨h1,k1⟩:=d7;obtain⟨h2,k2⟩:=h1.setMay false;have bP:KT (w.heap.size+1) f (((y.setCell ⟨w.heap.size+1,2,N⟩ (.slice (S ⟨g6,0,N⟩) (Z.os.length+1) b4))).setCell ⟨w.heap.size+1,4,N⟩ (.bool false)):=bM.out.trans ((KT.alloc _ wc (by omega) _).trans (k1.trans k2));have H2:=z6 h2;have cT:=z6 bP;have dF:=z6 (bP.ty _ _ _ _ d.out.tok (by decide));have cA:=aU.out (zz m) (((y.setCell ⟨w.heap.size+1,2,N⟩ (.slice (S ⟨g6,0,N⟩) (Z.os.length+1) b4))).setCell ⟨w.heap.size+1,4,N⟩ (.bool false)) cw;obtain⟨W7,cn⟩:∃W,W=(((y.setCell ⟨w.heap.size+1,2,N⟩ (.slice (S ⟨g6,0,N⟩) (Z.os.length+1) b4))).setCell ⟨w.heap.size+1,4,N⟩ (.bool false)):=⟨_,rfl⟩;have dG:=z6 cn;clear cn cm bD b7 cI cy G X h1 k1 h2 k2 bP bW cD bT cp;go_wp2_with fail;refine cA.mono ?_;rintro _ w7⟨v7,rfl,bv,bV⟩;obtain⟨a7,c7,rfl⟩:=zl bV;have dn:=bv.size;simp at dn;have ci:w.heap.size+1<=(((y.setCell ⟨w.heap.size+1,2,N⟩ (.slice (S ⟨g6,0,N⟩) (Z.os.length+1) b4))).setCell ⟨w.heap.size+1,4,N⟩ (.bool false)).heap.size:=by simp;omega
          have K:KT (w.heap.size+1) f w7:=cT.out.trans (KT.of_below bv ci);have cl:=H2.out.below bv (lab':=bZ) (λ_ _=>rfl);have bu:({Z with vo:=.slice (S ⟨g6,0,N⟩) (Z.os.length+1) b4,os:=Z.os++[(⟨[],[],[]⟩,.slice N 0 0,.slice N 0 0)],may:=false}:MV).st=M.st.begin T.text:=by
           have e5:=d1.out;rw[bt.out,d0.out]at e5;have e6:({Z with vo:=.slice (S ⟨g6,0,N⟩) (Z.os.length+1) b4,os:=Z.os++[(⟨[],[],[]⟩,.slice N 0 0,.slice N 0 0)],may:=false}:MV).st={Z.st with os:=Z.st.os++[⟨[],[],[]⟩],may:=false}:=by simp[MV.st]
           rw[e6,e5];rfl
          have ai:=d.out.goK cw rfl (Zn bV ci) cl K (by rw[d.out.rn,b2.out,cX.out];exact congrArg _ bu.symm) (by rw[bu];exact bO.out.1) (by rw[bu];exact bO.out.2);have aD:=z6 ai;have bI:w7.heap[p.heap.size]?=_:=(K.ty _ _ _ _ d.out.tok (by decide)).trans d.out.tok;have ec:=z8 bI;have ea:=zi bI;have dZ:p.heap.size<w7.heap.size:=za bI;simp only[ZN];clear cA bv bV K cl bu ai bI;go_wp2;go_roundg (s.size+1-zz m);case rel=>exact⟨zz m,_,bZ,a7,c7,rfl,aD⟩
          case measure=>omega
      ·have dm:M.sign.isEmpty=false:=by simpa using V
       have o:run (TL 0 s.data.toList) S0=.error (2,m.place):=by rw[aE.out,if_pos (.inl V)]
       clear V;go_wp2_with fail;go_region;all_goals go_wp2_with fail
       all_goals refine bodyPost_ret (v:=.tuple #[ZP,I J 2,I J m.place]) (by simp[results,results64,go_sem,ao,am];done) rfl ⟨?_,?_⟩
       ·exact((d.out.below.setCell (Nat.le_refl _) _).setCell (Nat.le_refl _) _).drew
       ·rw[if_neg hl,o];rfl
     ·have bS:m.kind.isArrow=false:=by simpa using be
      have dQ:¬(ZS m.kind:Int)=2:=by cases hq:m.kind<;>simp[ZS,hq,TK.isArrow]at bS|-
      have ba:Hid (TL (zz T) (s.data.toList.drop (zz T))=m::(TL (zz T) (s.data.toList.drop (zz T))).tail/\m.kind.isArrow=false):=⟨bB,bS⟩;clear bB be bS;by_cases i:M.rs=[]
      ·have o:run (TL 0 s.data.toList) S0=.error (2,m.place):=by rw[<-d.out.rn,aF.out,ba.out.1,run.eq_def];simp[j,MV.st,i,ba.out.2]
       have a9:M.rs.length=0:=by rw[i];rfl
       rw[a9]at al;have ah:=λw'=>VN w' (w.heap.size+1) 1 T.place (zz T) (ZS m.kind) m.place (zz m) ⟨(Z1 T).toArray⟩ ⟨(Z1 m).toArray⟩ a q (zr T).length c (zr m).length x;have ae:=z6 ah;clear i ak a9 ah;go_wp2_with fail;refine(ae.out f).mono ?_;rintro _ H⟨rfl,a5⟩;have A:=d.out.kept a5;have ap:=z8 A.res;have bs:=zi A.res;have an:w.heap.size<H.heap.size:=za A.res;have aB:=z6 A;clear a5 A ae;simp only[ZP];go_wp2_with fail;refine bodyPost_ret (v:=.tuple #[ZP,I J 2,I J m.place]) (by simp[results,results64,go_sem,ap,an];done) rfl ⟨?_,?_⟩;·exact(aB.out.below.setCell (Nat.le_refl _) _).setCell (Nat.le_refl _) _
       ·rw[if_neg hl,o];rfl
      ·have bh:0<M.rs.length:=List.length_pos_iff.2 i;have bi:¬M.rs.length=0:=by omega
       have a1:M.os≠[]:=by have:=d.out.ok.ne i;simpa[MV.st]using this
       obtain⟨mr,m0,a4⟩:∃mr m0,M.os=mr++[m0]:=⟨M.os.dropLast,M.os.getLast a1,(List.dropLast_concat_getLast a1).symm⟩;have bx:=d.out.bd.xs;have bw:=d.out.bd.each m0.1 (by simp[MV.st,a4]);have bm:M.st.xs.length=M.xs.length:=by simp[MV.st]
       have bC:mr.length<=7:=by have:=aA;rw[a4]at this;simp at this;omega
       have cu:k<=2000:=by have:=HS.out;omega
       have hE:Zb T=⟨4,zr T,Z1 T,0,[]⟩:=by simp[Zb,zr,Z1,j,dup]
       obtain⟨h1,k1⟩:=d.out.mem.setSign [];have aN:Items (f.setCell ⟨w.heap.size+1,3,N⟩ (.string ⟨([]:z7).toArray⟩)) (w.heap.size+1) (.slice a (zr T).length c) (zr T):=by have hi:=d.out.items;rw[<-HT.out]at hi;exact UK k1 hi
       obtain⟨W,hW⟩:∃W,W=(f.setCell ⟨w.heap.size+1,3,N⟩ (.string ⟨([]:z7).toArray⟩)).alloc (.cells #[I J 4,.slice a (zr T).length c,.string ⟨(Z1 T).toArray⟩,I J 0,.slice N 0 0] 149):=⟨_,rfl⟩;have h2:Mem W (w.heap.size+1) (w.heap.size+1) {M with sign:=[]} aa (· =0):=by rw[hW];exact h1.below (zc _ _) (λ_ _=>rfl)
       have k2:KT (w.heap.size+1) f W:=by rw[hW];exact k1.trans (KT.alloc _ _ (by have:=k1.size;omega) _)
       have aO:Items W (w.heap.size+1) (.slice a (zr T).length c) (zr T):=by rw[hW];exact aN.alloc _
       have aw:=YG W (w.heap.size+1) (w.heap.size+1) xa xc M.xs.length M.vr M.vo [] M.may (M.xs.flatMap exC) 4 a (zr T).length c ⟨(Z1 T).toArray⟩ 0 N 0 0 (by rw[<-ag.out];exact h2.blk) (by rw[<-ag.out];exact h2.ex) (by omega) (Nat.le_refl _);simp only[show((4:Nat):Int)=4 from rfl]at aw;have H2:=z6 h2;have K2:=z6 k2;have bb:=z6 aO;have HO:=z6 a4;have ar:=z6 hE;have aV:=z6 i;have b3:=z6 (VJ d.out.ok.sg);have ce:=aS 3;clear i h1 k1 aN h2 k2 aO a4 a1 hE;have aR:W.heap[f.heap.size]?=S (.cells #[I J 4,.slice a (zr T).length c,.string ⟨(Z1 T).toArray⟩,I J 0,.slice N 0 0] 149):=by rw[hW];exact Ji _ _ _ (by simp)
       have xq:=z8 aR;clear aR;go_upto_region 17 with fail;rw[<-hW];clear hW;go_wp2_with fail;refine aw.mono ?_;rintro _ H⟨xg,cQ,rfl,aI⟩;obtain⟨a6,ad⟩:=H2.out.add (re:=Zb T) (iv:=.slice a (zr T).length c) (pv:=.slice N 0 0) (by rw[ag.out,ar.out];exact aI) (by rw[ar.out];exact bb.out) (by rw[ar.out];exact World.ownsRow_nil _ _ _ _) (λb hb=>by simp[Value.ownBlock]at hb);have aP:=VP H (w.heap.size+1) (w.heap.size+1) _ aa a6 mr m0 HO.out M.xs.length M.sign b3.out (by simp;omega) (by omega) (by omega);have ab:=z6 ad;clear aw aI a6 ad;go_wp2_with fail;refine aP.mono ?_;rintro _ y⟨rfl,M6,aZ,au,aJ,aK⟩;have K:KT (w.heap.size+1) f y:=K2.out.trans (ab.out.trans aJ);have a3:M6.st=M.st.lay (Zb T):=by rw[aK];simp[MV.st,ST.add,ST.lay]
       have aL:M.st.os≠[]:=by simp[MV.st,HO.out]
       have ai:=d.out.go HT.out HM.out aC.out au K (by rw[aF.out,a3];conv=>{lhs;rw[ba.out.1]};rw[zcx j (show M.st.rs≠[]from aV.out) ba.out.2, <-ba.out.1]) (by rw[a3];exact d.out.ok.lay aL (qT T)) (by rw[a3];exact(d.out.bd.lay aL _).mono aX);have aD:=z6 ai;have G:y.heap[p.heap.size]?=_:=(K.ty _ _ _ _ d.out.tok (by decide)).trans d.out.tok;rw[<-HT.out]at G;have ca:=z8 G;have c9:=zi G;have X:y.heap[l.heap.size]?=_:=(K.ty _ _ _ _ af.out (by decide)).trans af.out;have c6:=z8 X;have c8:p.heap.size<y.heap.size:=za G;have bL:l.heap.size<y.heap.size:=za X;clear aP au aJ aK K a3 ai G X;go_wp2;go_roundg (s.size+1-zz T);case rel=>exact⟨zz T,M6,aZ,q,x,rfl,aD⟩
       case measure=>omega
end
end Go.Proofs.YtiganlkabilblaaGreatDoor
