import Derived.Test.YtiganlkabilblaaGreatDoorV00
import Derived.Test.YtiganlkabilblaaGreatDoorV47
import Derived.Deep.RegionHeld
import Derived.Deep.AppendLies
set_option linter.all false
set_option maxHeartbeats 64000000
set_option maxRecDepth 100000
namespace Go.Proofs.YtiganlkabilblaaGreatDoor
open Tryz
open Tryz renaming prog->P
open Option renaming some->S,none->N
open Value renaming int->I
open IntKind renaming i64->J
section
open Go.RowKit
def YY(c:Int)(n:Nat):Nat:=(if c<0 then -(c+1)else c).toNat % n
theorem zh9(c:Int){n:Nat}(h:0<n):YY c n<n:=Nat.mod_lt _ h
def i64(c:Int):Prop:= -9223372036854775808<=c/\c<9223372036854775808
theorem zd7(k:Int)(n:Nat)(a:0<=k):k.tmod n=↑(k.toNat % n):=by obtain⟨m,rfl⟩:=Int.eq_ofNat_of_zero_le a;rw[<-Int.ofNat_tmod];rfl
theorem zha(c:Int)(n:Nat)(h:c<0): -(c+1).tmod n=↑(YY c n):=by rw[<-Int.neg_tmod,zd7 _ _ (by omega)];simp only[YY,h,if_true]
theorem zhb(c:Int)(n:Nat)(h:0<=c):c % n=↑(YY c n):=by rw[<-Int.tmod_eq_emod_of_nonneg h,zd7 _ _ h];simp only[YY,show¬c<0 by omega,if_false]
end
section
open Go.RowKit Go.Lib
attribute [local go_sem ↓] Go.wp_at_zero Go.wp_at_succ
def KpT(w w':World):Prop:=∀(x:Nat) (a:Array Value) (T:TypeId),w.heap[x]?=S (.cells a T (0,0))->(T=167\/T=100)->w'.heap[x]?=w.heap[x]?
theorem KpT.trans{a b c:World}(h:KpT a b)(k:KpT b c):KpT a c:=λx d T g f=>by have e:=h x d T g f;rw[k x d T (e.trans g) f,e]
theorem KpT.of_below{w w':World}(a:Below w.heap.size w w'):KpT w w':=λx _ _ b _=>a.block x (zd b)
theorem Z2.kpt{B:Nat}{F:Nat->Prop}{w w':World}{p:Pr}(h:Z2 B F w p)(f:GrW w w' p.mut):KpT w w':=λx k T b d=>f.block x (zd b) (λg=>by obtain⟨l,j,a,c⟩:=h.typ2 g;rw[b]at a;simp at a;obtain⟨_,rfl⟩:=a;rcases c with e|e|e|e<;>subst e<;>rcases d with h|h<;>exact absurd h (by decide))
section
variable {w0 w w' : World} {yb i : Nat} {o : Nat → Nat} {ps : List Pr} {nbs : List Nat} {vp va : Value}
end
section
variable {w0 w w' : World} {yb i : Nat} {o : Nat → Nat} {ps : List Pr} {bk : Bool → List Nat} {vp : Value} {vv : Bool → Value}
def zrv(w0:World)(yb:Nat)(ps:List Pr)(bk:Bool->List Nat)(vp:Value)(w w':World):Prop:=∃c b a,zqU w0 yb c b a w'/\b.length=ps.length/\(∀q,(a q).length<=(bk q).length+1)/\KpT w w'/\∃d e,w'.heap[yb]?=S (plO vp d e)
theorem zrv.from{a:World}(h:zrv w0 yb ps bk vp a w')(j:Below w.heap.size w a):zrv w0 yb ps bk vp w w':=by obtain⟨k,l,b,c,d,e,f,g⟩:=h;exact⟨k,l,b,c,d,e,(KpT.of_below j).trans f,g⟩
theorem zqU.rds(h:zqU w0 yb o ps bk w)(c:PlX w0 yb o ps bk w vp vv)(b:i<ps.length)(e:Nxt w0.heap.size (λx=>o x=i+2/\w0.heap.size<=x) w w' ps[i]):zrv w0 yb ps bk vp w w':=by
 obtain⟨a,l,f,j⟩:=e;obtain⟨k,d⟩:=h.pair b f a j;refine⟨k,_,bk,d,by rw[List.length_set],λ_=>by omega,(h.prs i b).kpt a,vv false,vv true,?_⟩;rw[a.block yb (zd c.e1) (λg=>by have:=((h.prs i b).mu yb g).1.1;rw[h.yo]at this;omega)]
 exact c.e1
theorem zuf(h:zqU w0 yb o ps bk w)(j:PlX w0 yb o ps bk w vp vv)(a:i<ps.length)(q:ByteArray)(g:q.size<=281474976710656):∃b:Int,Calls P 33 #[z9 ps[i].xb,.string q] w λe d=>e=.returned (I J b)/\KpT w d/\Calls P 114 #[z9 ps[i].cb,.string q] d λf l=>f=.returned (I J b)/\zrv w0 yb ps bk vp w l:=⟨_,(zeQ (h.prs i a) h.bel.size q g).mono (λ_ _ k=>⟨k.1,(h.prs i a).kpt k.2.1,k.2.2.mono (λ_ _ c=>⟨c.1,h.rds j a c.2⟩)⟩)⟩
theorem zue(h:zqU w0 yb o ps bk w)(m:PlX w0 yb o ps bk w vp vv)(d:i<ps.length):∃(a:Int) (b:Bool) (c:Int),Calls P 35 #[z9 ps[i].xb] w λe g=>e=.returned (.tuple #[I J a,.bool b,I J c])/\KpT w g/\Calls P 115 #[z9 ps[i].cb] g λj n=>j=.returned (.tuple #[I J a,.bool b,I J c])/\zrv w0 yb ps bk vp w n:=by obtain⟨a,b,c,l⟩:=zeJ (h.prs i d);exact⟨a,b,c,l.mono (λ_ _ k=>⟨k.1,(h.prs i d).kpt k.2.1,k.2.2.mono (λ_ _ f=>⟨f.1,h.rds m d f.2⟩)⟩)⟩
theorem zuc(h:zqU w0 yb o ps bk w)(g:PlX w0 yb o ps bk w vp vv)(a:i<ps.length):∃b:Int,Calls P 36 #[z9 ps[i].xb] w λe d=>e=.returned (I J b)/\KpT w d/\Calls P 117 #[z9 ps[i].cb] d λf j=>f=.returned (I J b)/\zrv w0 yb ps bk vp w j:=⟨_,(zdL (h.prs i a)).mono (λ_ _ k=>⟨k.1,(h.prs i a).kpt k.2.1,k.2.2.mono (λ_ _ c=>⟨c.1,h.rds g a c.2⟩)⟩)⟩
theorem PlX.below(h:PlX w0 yb o ps bk w vp vv)(a:Below w.heap.size w w')(d:o yb=0):PlX w0 yb o ps bk w' vp vv:=h.same (λx b c=>⟨a.block x b,c⟩) d
theorem zqU.bookedR(h:zqU w0 yb o ps bk w)(e:PlX w0 yb o ps bk w vp vv)(q:Bool)(a:zsg (bcs q vp vv) (bTS q) (bTB q) (bsz q) (bz q (bk q).length) yb w0.heap.size (bk q).length (vv q) ((bk q).map Jy) w w'):zrv w0 yb ps bk vp w w':=by
 obtain⟨n,g,f⟩:=h.booked e q a;obtain⟨v,p,j,s,t,k,u⟩:=a;refine⟨g,ps,_,f,rfl,λr=>by unfold bup;split<;>simp,λx l T b a=>k.block x (zd b) (λd=> ?_),?_⟩
 ·rcases d with rfl|d;·rw[e.e1]at b;simp at b;obtain⟨_,rfl⟩:=b;rcases a with h|h<;>exact absurd h (by decide)
  ·obtain⟨m,c⟩:=Zr (e.e3 q) d;rw[b]at c;simp only[Option.some.injEq,Obj.cells.injEq]at c;obtain⟨_,rfl,_⟩:=c;cases q<;>rcases a with h|h<;>exact absurd h (by decide)
 ·rw[j];cases q;·exact⟨_,_,rfl⟩
  ·exact⟨_,_,rfl⟩
theorem zud{c:World}{v:Value}{L:List Nod}(h:zqU w0 yb o ps bk w)(b:PlX w0 yb o ps bk w vp vv)(a:Below w.heap.size w c)(d:Y0 c w.heap.size v L)(j:L.length<=5000)(k:(bk false).length<=5000000000000):Calls P 49 #[.pointer (S ⟨yb,1,N⟩),v] c λe f=>e=.returned (.tuple #[])/\zrv w0 yb ps bk vp w f:=by have l:=a.size;have m:=h.bel.size;refine(zt6 c yb (bk false).length w0.heap.size w.heap.size vp (vv false) _ v ((bk false).map Jy) _ L.length (by rw[a.block yb (zd b.e1)];exact b.e1) (Zv (b.e3 false) a) d j k (by omega)).mono ?_;rintro e f⟨rfl,g⟩;exact⟨rfl,h.bookedR b false (g.trd a d)⟩
theorem zug(h:zqU w0 yb o ps bk w)(hx:PlX w0 yb o ps bk w vp vv)(Y:i<ps.length)(g r:Int)(t s:ByteArray)(hk:2<=g/\g<=5)(hs:s.size<=281474976710656)(hm:(bk false).length<=5000000000000):Calls P 78 #[z9 yb,.agg #[z9 ps[i].xb,z9 ps[i].cb],.agg #[I J g,I J r,.string t,.string s]] w λe w'=>e=.returned (.bool true)/\zrv w0 yb ps bk vp w w':=by
 have X:=QY w (pbO ps[i].xb ps[i].cb) (opO g r t s);have b4:((w.alloc (pbO ps[i].xb ps[i].cb)).alloc (opO g r t s)).heap[w.heap.size]?=S (pbO ps[i].xb ps[i].cb):=by rw[zm _ _ (by simp)];exact zk _ _
 have b5:((w.alloc (pbO ps[i].xb ps[i].cb)).alloc (opO g r t s)).heap[w.heap.size+1]?=S (opO g r t s):=by have:=zk (w.alloc (pbO ps[i].xb ps[i].cb)) (opO g r t s);simpa using this
 have hP:=h.below X;have a8:=hx.below X h.yo;have U:Hid (∀b,KpT ((w.alloc (pbO ps[i].xb ps[i].cb)).alloc (opO g r t s)) b->b.heap[w.heap.size]?=S (pbO ps[i].xb ps[i].cb)/\b.heap[w.heap.size+1]?=S (opO g r t s)):=z6 (λb m=>⟨(m _ _ _ b4 (.inl rfl)).trans b4,(m _ _ _ b5 (.inr rfl)).trans b5⟩);have R:Hid (∀b,zrv w0 yb ps bk vp ((w.alloc (pbO ps[i].xb ps[i].cb)).alloc (opO g r t s)) b->zrv w0 yb ps bk vp w b):=z6 (λb hr=>hr.from X);have ad:g=2\/g=3\/g=4\/g=5:=by omega
 have p:=z6 hP;have n:=z6 a8;clear h X b4 b5 hP a8 hk hx;rcases ad with rfl|rfl|rfl|rfl;·obtain⟨er,hF⟩:=zuf p.out n.out Y s hs;have q:=z6 hF;clear hF p n;generalize ps[i].xb=O at *;generalize ps[i].cb=M at *;go_enter func78,ntmps78;go_wp2_with fail;refine q.out.mono ?_;rintro _ b⟨rfl,m,l⟩;obtain⟨d,f⟩:=U.out b m;have E:=z8 d;have F:=z8 f;have A:=za d;have B:=za f;have j:=z6 l;clear l m d f q;go_wp2_with fail;refine j.out.mono ?_;rintro _ H⟨rfl,u⟩;have K:=z6 (R.out _ u);clear u j E F A B;go_wp2_with fail;go_ret;exact⟨by simp,K.out⟩
 ·obtain⟨x,y,z,hF⟩:=zue p.out n.out Y;have q:=z6 hF;clear hF p n;generalize ps[i].xb=O at *;generalize ps[i].cb=M at *;go_enter func78,ntmps78;go_wp2_with fail;refine q.out.mono ?_;rintro _ b⟨rfl,m,l⟩;obtain⟨d,f⟩:=U.out b m;have E:=z8 d;have F:=z8 f;have A:=za d;have B:=za f;have j:=z6 l;clear l m d f q;go_wp2_with fail;refine j.out.mono ?_;rintro _ H⟨rfl,u⟩;have K:=z6 (R.out _ u);clear u j E F A B;go_wp2_with fail;all_goals go_ret
  all_goals exact⟨by simp,K.out⟩
 ·obtain⟨L,er,hL,hN⟩:=zgS (p.out.prs i Y);have HN:=z6 hN;have a3:Hid (∀D v,Below ((w.alloc (pbO ps[i].xb ps[i].cb)).alloc (opO 4 r t s)).heap.size ((w.alloc (pbO ps[i].xb ps[i].cb)).alloc (opO 4 r t s)) D->Y0 D ((w.alloc (pbO ps[i].xb ps[i].cb)).alloc (opO 4 r t s)).heap.size v L->Calls P 49 #[.pointer (S ⟨yb,1,N⟩),v] D λe w4=>e=.returned (.tuple #[])/\Hid (zrv w0 yb ps bk vp w w4)):=z6 (λD v G ab=>(zud p.out n.out G ab hL hm).mono (λ_ _ k=>⟨k.1,z6 (R.out _ k.2)⟩));have ae:yb<((w.alloc (pbO ps[i].xb ps[i].cb)).alloc (opO 4 r t s)).heap.size:=zd n.out.e1;clear hN p n;generalize ps[i].xb=O at *;generalize ps[i].cb=M at *;go_enter func78,ntmps78;go_wp2_with fail;refine HN.out.mono ?_;rintro _ b⟨V,a,c,rfl,a9,l⟩;obtain⟨d,f⟩:=U.out b (KpT.of_below V);have E:=z8 d;have F:=z8 f;have A:=za d;have B:=za f;have ag:=V.size;have j:=z6 l;have a1:=z6 V;have a5:=z6 a9;clear l d f HN V a9;go_wp2_with fail;refine j.out.mono ?_;rintro _ H⟨W,a2,c2,rfl,aa⟩;have ah:=W.size;have a0:Y0 H _ (.slice a L.length c) L:=Zv a5.out W;have a7:=z6 (ziC H _ _ _ _ L a0 aa);have Z:Hid (Below ((w.alloc (pbO O M)).alloc (opO 4 r t s)).heap.size ((w.alloc (pbO O M)).alloc (opO 4 r t s)) H):=a1.out.trans (W.mono a1.out.size);have a6:=z6 a0;clear W aa a0 j E F A B a5;go_wp2_with fail;refine a7.out.mono ?_;rintro _ D⟨rfl,G⟩;have ai:=G.size;have a4:=z6 (a3.out D (.slice a L.length c) (Z.out.trans (G.mono Z.out.size)) (Zv a6.out G));have af:yb<D.heap.size:=by omega
  clear G a7 a3 a6 Z;go_wp2_with fail;refine a4.out.mono ?_;rintro _ w4⟨rfl,HZ⟩;clear a4;go_wp2_with fail;go_ret;exact⟨by simp,HZ.out⟩
 ·obtain⟨er,hF⟩:=zuc p.out n.out Y;have q:=z6 hF;clear hF p n;generalize ps[i].xb=O at *;generalize ps[i].cb=M at *;go_enter func78,ntmps78;go_wp2_with fail;refine q.out.mono ?_;rintro _ b⟨rfl,m,l⟩;obtain⟨d,f⟩:=U.out b m;have E:=z8 d;have F:=z8 f;have A:=za d;have B:=za f;have j:=z6 l;clear l m d f q;go_wp2_with fail;refine j.out.mono ?_;rintro _ H⟨rfl,u⟩;have K:=z6 (R.out _ u);clear u j E F A B;go_wp2_with fail;go_ret;exact⟨by simp,K.out⟩
end
theorem zg2(c:Int)(n:Nat)(w:World)(a:i64 c)(d:0<n)(h:n<=5000000000000):Calls P 79 #[I J c,I J n] w λe b=>e=.returned (I J ↑(YY c n))/\b=w:=by
 obtain⟨f,g⟩:=a;have i:(n:Int)≠0:=by omega
 go_enter func79,ntmps79;go_wp2;all_goals go_ret
 ·exact⟨by rw[<-zha c n (by assumption)];rfl,rfl⟩
 ·exact⟨by rw[<-zhb c n (by assumption)];rfl,rfl⟩
theorem infoPair:(prog.info? 167).map (λi=>(i.zero,i.size,i.bytes))=S (S (.agg #[.pointer N,.pointer N]),2,16):=by kernel_rfl
section
variable {w0 w : World} {yb : Nat} {o : Nat → Nat} {ps : List Pr} {nbs : List Nat}
end
section
variable {w0 w : World} {yb : Nat} {o : Nat → Nat} {ps : List Pr} {bk : Bool → List Nat}
def zsC(w0:World)(yb:Nat)(ps:List Pr)(bk:Bool->List Nat)(c:World):Prop:=∃b a,zqU w0 yb b a bk c/\a.length<=ps.length+1
theorem ztS{w1 g i:World}{b:Value}{f:Bool->Value}{p:Pr}{g3 j:Nat}{O:Obj}(h:zqU w0 yb o ps bk w)(d:PlX w0 yb o ps bk w b f)(l:Below w.heap.size w g)(z:Z2 w0.heap.size (λx=>w.heap.size<=x) g p)(m:i.ownsRow w0.heap.size 167 2 (.slice (S ⟨g3,0,N⟩) (ps.length+1) j) (ps.length+1) (ps.flatMap Qe++Qe p))(a:(g.alloc O).grownBy i b.ownBlock)(u:b.ownBlock=S g3\/g3=g.heap.size+1):zsC w0 yb ps bk (i.setCell ⟨yb,0,N⟩ (.slice (S ⟨g3,0,N⟩) (ps.length+1) j)):=by
 have k:=d.e1;have s:=d.e2;have B:=zd k;have F:=l.size;have D:=a.size;simp at D;have y:b.ownBlock≠S yb:=λe=>by obtain⟨r,c⟩:=Zr s e;rw[k]at c;simp at c
 have A:g.heap[yb]?=S (plO b (f false) (f true)):=by rw[l.block yb B];exact k
 have q:i.heap[yb]?=S (plO b (f false) (f true)):=YC a A (λe=>y e.symm);have v:g3≠yb:=by rintro rfl;obtain⟨r,c⟩:=Zr m rfl;rw[q]at c;simp at c
 obtain⟨E,t⟩:=h.more (w':=i.setCell ⟨yb,0,N⟩ (.slice (S ⟨g3,0,N⟩) (ps.length+1) j)) (vp':=.slice (S ⟨g3,0,N⟩) (ps.length+1) j) d l z ⟨a.os,a.tape,a.output,by simp[World.setCell];omega,λx d n=>by
  rw[Below.heap_setCell _ _ _ _ (λe=>n (.inl e)),a.block x (by simp;omega) (λe=>n (.inr e.symm)),zm _ _ d]⟩ (by rw[zo q];rfl) (zc0 m (λe=>v (Option.some.inj e))) (by
  rcases u with e|e;·exact .inl e.symm
  ·exact .inr ⟨g3,rfl,by omega⟩)
 exact⟨E,_,t,by simp⟩
theorem ztR(h:zqU w0 yb o ps bk w)(t:ByteArray)(K:t.size<=maxLen)(hg:QD w0)(au:ps.length<=5000000000000):Calls P 77 #[z9 yb,.string t] w λe w'=>e=.returned (.bool true)/\zsC w0 yb ps bk w':=by
 have a4:=zhk t w K (hg.below h.bel);have c:=z6 h;clear h hg;go_enter func77,ntmps77;go_wp2_with fail;refine a4.mono ?_;rintro e a5⟨a1,ak,H,Y⟩;obtain⟨r,hr⟩:=H.pread;have m:=z6 (zhZ t a5 K r hr);have b:=z6 a1;have A:=z6 H;clear a4 a1 H hr;cases ak with
 |error x=>obtain⟨er,p⟩:=x;obtain⟨h0,rfl⟩:=Y;go_wp2_with fail;refine m.out.mono ?_;rintro e a⟨d,al,k,G⟩;have:=A.out.det k;subst this;obtain⟨_,rfl⟩:=G;have D:Hid (zsC w0 yb ps bk a):=z6 ⟨o,ps,c.out.below (b.out.trans (d.mono b.out.size)),by omega⟩;clear d k m;go_wp2_with fail;go_ret;exact⟨rfl,D.out⟩
 |ok y=>
  obtain⟨g,E⟩:=y;obtain⟨aq,L,mb,am,bx,rs,vr,S,rfl,Z,hX,ad,ar,hS⟩:=Y;have O:=z6 Z;have V:=z6 hX;have U:=z6 hS;clear Z hX hS;go_wp2_with fail;refine m.out.mono ?_;rintro e a⟨d,al,k,G⟩;have:=A.out.det k;subst this;obtain⟨F,rfl,l,ab⟩:=G;obtain⟨M,vv,s⟩:=c.out.ex;have n:=s.e1;have q:=s.e2;have j:Below w.heap.size w a:=b.out.trans (d.mono b.out.size);have R:=z6 (Z2.new (B:=w0.heap.size) K A.out O.out V.out ad U.out d b.out l ab c.out.bel.size);have a6:Hid (∀f g3 i,f.ownsRow w0.heap.size 167 2 (.slice (some ⟨g3,0,N⟩) (ps.length+1) i) (ps.length+1) (ps.flatMap Qe++[z9 L,z9 F])->(a.alloc (pbO L F)).grownBy f M.ownBlock->(M.ownBlock=some g3\/g3=a.heap.size+1)->zsC w0 yb ps bk (f.setCell ⟨yb,0,N⟩ (.slice (some ⟨g3,0,N⟩) (ps.length+1) i))):=z6 (λf g3 i h1 h2 h3=>ztS (w1:=a5) c.out s j R.out h1 h2 h3);have ag:=zd n;have aw:=j.size;have v:a.heap[yb]?=some (plO M (vv false) (vv true)):=by rw[j.block yb ag];exact n
  have a3:=Zv q j;obtain⟨W,X,rfl⟩:=zl q;have a8:Hid (some yb≠(Value.slice W ps.length X).ownBlock):=z6 (λe=>by obtain⟨an,l⟩:=Zr q e.symm;rw[n]at l;simp at l)
  have a9:=z6 a3;have aa:=z6 v;have y0:a.cell? ⟨yb,0,N⟩=some (.slice W ps.length X):=z8 v 0;have av:=za v;have ao:w0.heap.size<=a.heap.size:=by have:=c.out.bel.size;omega
  have a7:Hid (ps.length+1<=maxLen):=by show _<=_;unfold maxLen;omega
  obtain⟨i0,ae,ah,ai,aj⟩:=info_parts infoPair;clear d k m b j l n q s a3 v R O V U c;go_wp2_with(first|(at_builtin;refine wpList_append_lies _ rfl _ _ 30 rfl w0.heap.size 167 i0 _ 2 16 underlying30 ae ah ai aj rfl (by decide) _ _ _ rfl (a9.out.alloc _) ⟨a.heap.size,0,N⟩ 1 1 [z9 L,z9 F] rfl rfl (World.news_of_block (zk a _)) (by intro u hu;simp at hu;rcases hu with rfl|rfl<;>rfl) (by decide) a7.out (by omega) (by simp;omega) (a.heap.size+1) (by simp) ?_));intro g3 i f a2 J a0 af;have z:=YC J aa.out a8.out;have y1:=z8 z 0;have y2:=zi z 0;have y3:=za z;have D:=z6 (a6.out f g3 i a2 J a0);clear a2 J a0 af z y0;go_wp2_with fail;go_ret;exact⟨rfl,D.out⟩
end
section
variable {w0 w : World} {yb : Nat} {o : Nat → Nat} {ps : List Pr} {nbs : List Nat}
theorem zc4(ps:List Pr)(i j:Nat)(a:i<ps.length)(d:j<2):(ps.flatMap Qe)[i *2+j]?=(Qe ps[i])[j]?:=by
 induction ps generalizing i with
 |nil=>simp at a
 |cons p ps c=>
  have b:(Qe p).length=2:=rfl;cases i with
  |zero=>simp only[List.flatMap_cons,Nat.zero_mul,Nat.zero_add,List.getElem_cons_zero];rw[List.getElem?_append_left (by omega)]|succ i=>simp only[List.flatMap_cons,List.getElem_cons_succ];rw[List.getElem?_append_right (by omega),b,show(i+1) *2+j-2=i *2+j from by omega];exact c i (by simpa using a)
end
end
end Go.Proofs.YtiganlkabilblaaGreatDoor
