import Derived.Test.YtiganlkabilblaaGreatDoorV34
import Derived.Test.YtiganlkabilblaaGreatDoorV28
import Derived.Deep.RegionHeld
import Derived.Test.YtiganlkabilblaaGreatDoorV17
set_option linter.all false
set_option maxHeartbeats 64000000
set_option maxRecDepth 100000
namespace Go.Proofs.YtiganlkabilblaaGreatDoor
open Tryz
open Tryz renaming prog->P
open Option renaming some->S,none->N
open Value renaming int->I
open IntKind renaming i64->J
section
open Go.RowKit
attribute [local go_sem ↓] Go.wp_at_zero Go.wp_at_succ
abbrev zqr(a b:UInt8)(c:TypeId)(d:Value):Obj:=.cells #[I .u8 a.toNat,.iface c d,I .u8 b.toNat] 249 (0,0)
theorem zqs(k:Nat)(D:PlP k):PlT k:=by
 intro w A t v r x J;obtain⟨a,s,b⟩:=t;simp only[Zk]at r;simp only[Jx]at x;simp only[wtT]at J;obtain⟨m,n,rfl⟩:=zp.oneCell r;simp only[prT,QN,Term.ahead,Term.behind];have E:=λ(W:World) (c:Below w.heap.size w W)=>D W A s (.iface m n) (a !=0||b !=0) (zp.kept (ZF c) s _ r) x (by omega);have F:=λW=>zp9 a W;have G:=λW=>zp9 b W;have H:=λW=>zpb a b m n W;have a0:=zom s (a !=0||b !=0);have U:=zo4 a;have V:=zo4 b;generalize prP s (a !=0||b !=0)=R at *;generalize zne a=i at *;generalize zne b=j at *;have a1:∀W:World,(Op.stringOp .add ⟨i.toArray⟩ ⟨R.toArray⟩).run P W=.ok (.string ⟨(i++R).toArray⟩) W:=λW=>znD i R (by omega) W;have a2:∀W:World,(Op.stringOp .add ⟨(i++R).toArray⟩ ⟨j.toArray⟩).run P W=.ok (.string ⟨((i++R)++j).toArray⟩) W:=λW=>znD _ j (by simp;omega) W;have K:Hid ((i++R)++j=i++(R++j)):=List.append_assoc _ _ _;generalize (i++R)++j=Z at *;generalize i++R=Y at *;generalize (a !=0||b !=0)=sg at *;obtain⟨X,q⟩:∃X,X=w.alloc (.cells #[I .u8 a.toNat,.iface m n,I .u8 b.toNat] 249):=⟨_,rfl⟩;have B:Below w.heap.size w X:=by rw[q];exact zc _ _
 have o:X.heap[w.heap.size]?=S (zqr a b m n):=by rw[q];exact zk _ _
 have d:=za o;have f:X.cell? ⟨w.heap.size,0,N⟩=S (I .u8 a.toNat):=z8 o 0;have g:X.cell? ⟨w.heap.size,1,N⟩=S (.iface m n):=z8 o 1;have h:X.cell? ⟨w.heap.size,2,N⟩=S (I .u8 b.toNat):=z8 o 2;have e:=z6 B;have L:=z6 E;have z:=z6 F;have M:=z6 G;have O:=z6 H;clear D r x J E F G H a0 U V B o;go_enter func145,ntmps145;go_wp2_with fail;rw[<-q];clear q;go_region_held (λy=>y.cell? ⟨w.heap.size,0,N⟩=S (I .u8 a.toNat)/\y.cell? ⟨w.heap.size,1,N⟩=S (.iface m n)/\y.cell? ⟨w.heap.size,2,N⟩=S (I .u8 b.toNat)) (go_keep) (first|(go_at_call 168;refine(z.out _).mono ?_;rintro _ u⟨rfl,c⟩;replace f:=(c.cell (p:=⟨w.heap.size,0,N⟩) d).trans f;replace g:=(c.cell (p:=⟨w.heap.size,1,N⟩) d).trans g;replace h:=(c.cell (p:=⟨w.heap.size,2,N⟩) d).trans h;replace e:=z6 (e.out.drew.trans (c.mono (Nat.le_of_lt d)));replace d:=Nat.lt_of_lt_of_le d c.size;clear c)|(go_at_call 168;refine(z.out _).mono ?_;rintro _ u⟨rfl,c⟩;replace f:=(c.cell (p:=⟨w.heap.size,0,N⟩) d).trans f;replace g:=(c.cell (p:=⟨w.heap.size,1,N⟩) d).trans g;replace h:=(c.cell (p:=⟨w.heap.size,2,N⟩) d).trans h;replace e:=z6 (e.out.trans (c.mono (Nat.le_of_lt d)));replace d:=Nat.lt_of_lt_of_le d c.size;clear c)|(go_at_call 168;refine(M.out _).mono ?_;rintro _ u⟨rfl,c⟩;replace f:=(c.cell (p:=⟨w.heap.size,0,N⟩) d).trans f;replace g:=(c.cell (p:=⟨w.heap.size,1,N⟩) d).trans g;replace h:=(c.cell (p:=⟨w.heap.size,2,N⟩) d).trans h;replace e:=z6 (e.out.trans (c.mono (Nat.le_of_lt d)));replace d:=Nat.lt_of_lt_of_le d c.size;clear c)|(go_at_call 170;refine(O.out _).mono ?_;rintro _ u⟨rfl,c⟩;replace f:=(c.cell (p:=⟨w.heap.size,0,N⟩) d).trans f;replace g:=(c.cell (p:=⟨w.heap.size,1,N⟩) d).trans g;replace h:=(c.cell (p:=⟨w.heap.size,2,N⟩) d).trans h;replace e:=z6 (e.out.trans (c.mono (Nat.le_of_lt d)));replace d:=Nat.lt_of_lt_of_le d c.size;clear c)|(go_at_call 169;refine(L.out _ e.out).mono ?_;rintro _ u⟨rfl,c⟩;replace f:=(c.cell (p:=⟨w.heap.size,0,N⟩) d).trans f;replace g:=(c.cell (p:=⟨w.heap.size,1,N⟩) d).trans g;replace h:=(c.cell (p:=⟨w.heap.size,2,N⟩) d).trans h;replace e:=z6 (e.out.trans (c.mono (Nat.le_of_lt d)));replace d:=Nat.lt_of_lt_of_le d c.size;clear c));all_goals go_wp2_with fail
 all_goals go_ret;exact⟨congrArg (λl=>Ending.returned (Value.string ⟨List.toArray l⟩)) K.out,e.out⟩
theorem zoA(s:z7)(a:s.length<=600000):(∀W:World,(Op.stringOp .add ⟨#[40]⟩ ⟨s.toArray⟩).run P W=.ok (.string ⟨(40::s).toArray⟩) W)/\∀W:World,(Op.stringOp .add ⟨(40::s).toArray⟩ ⟨#[41]⟩).run P W=.ok (.string ⟨(40::(s++[41])).toArray⟩) W:=⟨λW=>znD [40] s (by simp;omega) W,λW=>znD (40::s) [41] (by simp;omega) W⟩
theorem zpJ(k:Nat)(G:PlP k)(H:PlT k)(F:PlC k):PlG k:=by
 intro w A c u sg hc x q;obtain⟨us,⟨i,E⟩,Y⟩:=hc;obtain⟨ua,uc,rfl⟩:=zl i;have n:=F w A c (.slice ua c.length uc) ⟨us,⟨i,E⟩,Y⟩ x q;have X:=znJ c;obtain⟨b1,b2⟩:=zoA (prC c) (by omega);rcases c with _|⟨z,_|⟨s1,U⟩⟩;·simp only[wtC]at q;omega
 ·simp only[zA]at Y;obtain⟨u0,aj,rfl,⟨vs,⟨o,hA0⟩,a0⟩,rfl⟩:=Y;obtain⟨ta,tc,rfl⟩:=zl o;obtain⟨g,rfl,t,ad⟩:=Jk i (by simp);have c0:w.cell? ⟨g,0,N⟩=S (.slice ta z.length tc):=by rw[t 0 (by simp)];rfl
  simp only[List.length_singleton]at n|-;rcases z with _|⟨⟨a,h,b⟩,_|⟨t2,s'⟩⟩;·simp only[prP,List.length_nil]at c0|-;clear i x q X E F G H t n b1 b2 o a0;go_enter func187,ntmps187;go_wp2_with fail;go_ret;exact⟨rfl,Below.refl _ _⟩
  ·simp only[zD]at a0;obtain⟨v,ak,rfl,J,rfl⟩:=a0;have a7:=J;simp only[Zk]at J;obtain⟨r,s,rfl⟩:=zp.oneCell J;simp only[List.length_singleton]at o c0;obtain⟨g2,rfl,V,ai⟩:=Jk o (by decide);have e0:w.cell? ⟨g2,0,N⟩=S (I .u8 a.toNat):=by rw[V 0 (by decide)];rfl
   have e1:w.cell? ⟨g2,1,N⟩=S (.iface r s):=by rw[V 1 (by decide)];rfl
   have e2:w.cell? ⟨g2,2,N⟩=S (I .u8 b.toNat):=by rw[V 2 (by decide)];rfl
   have a1:Y6 h<=k:=by simp only[Qt,YO,Jx]at x;omega
   have af:wtP h+2<=500000:=by simp only[wtC,wtS,wtT]at q;omega
   have a6:=λ(W:World) (d:Below w.heap.size w W)=>G W A h (.iface r s) sg (zp.kept (ZF d) h _ J) a1 (by omega);have a2:=λ(W:World) (d:Below w.heap.size w W)=>H W A (.mk a h b) (.iface r s) (Zk.kept (ZF d) _ _ a7) (by simp only[Jx];exact a1) (by simp only[wtT];omega);simp only[QN,Term.ahead,Term.behind]at a2;have a5:=zo1 (.mk a h b);simp only[wtT]at a5;obtain⟨d1,d2⟩:=zoA (prT (.mk a h b)) (by omega);have y:=λW=>zpb a b r s W;simp only[prP];generalize prT (.mk a h b)=R at *;generalize 40::R=R1 at *;generalize prP h sg=Z at *;have a8:=z6 a6;have a3:=z6 a2;clear i x q X E F G H t o hA0 n b1 b2 V a1 af J a7 a5 a6 a2;by_cases m:a=0/\b=0
   ·have K:(a !=0||b !=0)=false:=by rw[m.1,m.2];rfl
    rw[K]at y;have O:=z6 y;rw[if_pos m];clear m K y;go_enter func187,ntmps187;go_wp2_with fail;refine(O.out _).mono ?_;rintro _ f⟨rfl,d⟩;have x1:f.cell? ⟨w.heap.size,1,N⟩=S (.iface r s):=by rw[d.cell (p:=⟨w.heap.size,1,N⟩) (by simp)];exact z8 (zk w _) 1
    have L:=d.size;simp at L;have a4:w.heap.size<f.heap.size:=by omega
    have j:=z6 ((zc w _).trans (d.mono (by simp)));clear d;go_wp2_with fail;refine(a8.out _ j.out).mono ?_;rintro _ w2⟨rfl,l⟩;have B:=z6 (j.out.trans (l.mono (by omega)));clear l;go_wp2_with fail;go_ret;exact⟨rfl,B.out⟩
   ·have K:(a !=0||b !=0)=true:=by
     by_cases ha:a=0;·have:b≠0:=λe=>m ⟨ha,e⟩;simp[this]
     ·simp[ha]
    rw[K]at y;have O:=z6 y;rw[if_neg m];clear m K y;cases sg with
    |true=>
     go_enter func187,ntmps187;go_wp2_with fail;refine(O.out _).mono ?_;rintro _ f⟨rfl,d⟩;have x0:f.cell? ⟨w.heap.size,0,N⟩=S (I .u8 a.toNat):=by rw[d.cell (p:=⟨w.heap.size,0,N⟩) (by simp)];exact z8 (zk w _) 0
     have x1:f.cell? ⟨w.heap.size,1,N⟩=S (.iface r s):=by rw[d.cell (p:=⟨w.heap.size,1,N⟩) (by simp)];exact z8 (zk w _) 1
     have x2:f.cell? ⟨w.heap.size,2,N⟩=S (I .u8 b.toNat):=by rw[d.cell (p:=⟨w.heap.size,2,N⟩) (by simp)];exact z8 (zk w _) 2
     have L:=d.size;simp at L;have a4:w.heap.size<f.heap.size:=by omega
     have j:=z6 ((zc w _).trans (d.mono (by simp)));clear d;go_wp2_with fail;refine(a3.out _ j.out).mono ?_;rintro _ w2⟨rfl,l⟩;have B:=z6 (j.out.trans (l.mono (by omega)));clear l;go_wp2_with fail;go_ret;exact⟨rfl,B.out⟩
    |false=>
     go_enter func187,ntmps187;go_wp2_with fail;refine(O.out _).mono ?_;rintro _ f⟨rfl,d⟩;have x0:f.cell? ⟨w.heap.size,0,N⟩=S (I .u8 a.toNat):=by rw[d.cell (p:=⟨w.heap.size,0,N⟩) (by simp)];exact z8 (zk w _) 0
     have x1:f.cell? ⟨w.heap.size,1,N⟩=S (.iface r s):=by rw[d.cell (p:=⟨w.heap.size,1,N⟩) (by simp)];exact z8 (zk w _) 1
     have x2:f.cell? ⟨w.heap.size,2,N⟩=S (I .u8 b.toNat):=by rw[d.cell (p:=⟨w.heap.size,2,N⟩) (by simp)];exact z8 (zk w _) 2
     have L:=d.size;simp at L;have a4:w.heap.size<f.heap.size:=by omega
     have j:=z6 ((zc w _).trans (d.mono (by simp)));clear d;go_wp2_with fail;refine(a3.out _ j.out).mono ?_;rintro _ w2⟨rfl,l⟩;have B:=z6 (j.out.trans (l.mono (by omega)));clear l;go_wp2_with fail;go_ret;exact⟨rfl,B.out⟩
  ·rw[znQ _ _ (by simp) (by simp)];have hM:1<(.mk a h b::t2::s').length:=by simp
   have ae:(.mk a h b::t2::s').length<=9223372036854775807:=by
    rcases o.2 with⟨_,D⟩|⟨g,aa,ab,hv,_,_,h1,D,_⟩;·omega
    ·unfold maxLen at D;omega
   generalize prC [.mk a h b::t2::s']=R at *;generalize 40::R=R1 at *;generalize (.mk a h b::t2::s').length=M at *;have ag:(1:Int)<M:=by omega
   clear i x q X E F G H t o a0 hA0;go_enter func187,ntmps187;go_wp2_with fail;refine n.mono ?_;rintro _ f⟨rfl,d⟩;clear n;go_wp2_with fail;go_ret;exact⟨rfl,d⟩
 ·rw[znQ _ _ (by simp) (by simp)];have hN:1<(z::s1::U).length:=by simp
  have ae:(z::s1::U).length<=9223372036854775807:=by
   rcases i.2 with⟨_,D⟩|⟨g,aa,ab,hv,_,_,h1,D,_⟩;·omega
   ·unfold maxLen at D;omega
  obtain⟨g,rfl,t,ad⟩:=Jk i (by omega);generalize prC (z::s1::U)=R at *;generalize 40::R=R1 at *;generalize (z::s1::U).length=a9 at *;have ah:(1:Int)<a9:=by omega
  clear i Y x q X E F G H t;go_enter func187,ntmps187;go_wp2_with fail;refine n.mono ?_;rintro _ f⟨rfl,d⟩;clear n;go_wp2_with fail;go_ret;exact⟨rfl,d⟩
theorem infoString:(prog.info? 9).map (λi=>(i.zero,i.size,i.bytes))=S (S (.string ⟨#[]⟩),1,16):=by kernel_rfl
def znn(b:z7):Value:=.string ⟨b.toArray⟩
theorem zoY(n:Nat)(g:n<=1000000)(w:World):∃a:Array Value,a.size=n *1/\(Instr.makeSlice 58 (I J 0) (I J n)).run prog w=.ok (.slice (S ⟨w.heap.size,0,N⟩) 0 n) (w.alloc (.cells a 9)):=by
 obtain⟨b,c,d,e,f⟩:=info_parts infoString;refine⟨madeCells (Value.string ⟨#[]⟩).cells (((n:Nat):Int).toNat *b.size),?_,?_⟩;·rw[size_madeCells,e];simp
 ·have h:=run_make (P:=prog) w 58 9 b _ underlying58 c d J J 0 (n:Int) (by omega) (by omega) (by rw[f];omega) (by omega);simpa using h
theorem ze1{W wr d f:World}{O:Obj}{v:Value}{e:TypeId}{j n:Nat}{l:List Value}(b:Below W.heap.size W wr)(h:d.ownsRow W.heap.size e j v n l)(a:Below wr.heap.size wr d)(c:(d.alloc O).grownBy f v.ownBlock):Below W.heap.size W f:=by have m:=b.size;have o:=a.size;have i:=c.size;simp at i;refine⟨c.os.trans (a.os.trans b.os),c.tape.trans (a.tape.trans b.tape),c.output.trans (a.output.trans b.output),by omega,λk g=> ?_⟩;rw[c.block k (by simp;omega) (λe=>by have:=(h.lt k e.symm).1;omega),zm _ _ (by omega),a.block k (by omega)];exact b.block k g
theorem zoU(a y:List UInt8)(r:List (List UInt8)):Lib.joinTail a (y::r)=a++y++Lib.joinTail a r:=by simp[Lib.joinTail]
theorem zoT:∀(x:z7) (r:List z7),jS (x::r)=x++Lib.joinTail [32] r
 |x,[]=>by simp[jS,Lib.joinTail]
 |x,y::r=>by have:=zoT y r;simp only[jS];rw[this,zoU];simp
theorem zoS:∀(x:List z7) (r:List (List z7)),jC (x::r)=jSq x++Lib.joinTail [32,47,32] (r.map jSq)
 |x,[]=>by simp[jC,Lib.joinTail]
 |x,y::r=>by have:=zoS y r;simp only[jC,List.map_cons];rw[this,zoU];simp
theorem zqe(s:List Term)(h:s≠[]):Lib.join (s.map prT) [32]=znd s:=by
 cases s with
 |nil=>exact absurd rfl h|cons t s=>rw[znW,List.map_cons,Lib.join_cons];simp only[jSq];rw[zoT]
theorem zqa(c:List (List Term))(h:c≠[]):Lib.join (c.map znd) [32,47,32]=prC c:=by
 cases c with
 |nil=>exact absurd rfl h|cons s c=>rw[zp0,List.map_cons,List.map_cons,Lib.join_cons,zoS,znW,List.map_map];congr 3;funext x;simp[znW]
theorem zoV{w:World}{B:Nat}{m:Option Addr}{n f:Nat}{L:List z7}{c:z7}{R:z7}(h:w.ownsRow B 9 1 (.slice m n f) n (L.map znn))(q:L.length=n)(t:0<n)(D:n<=1000000)(k:Lib.join L c=R)(A:R.length<=1000000):Calls P 107 #[.slice m n f,.string ⟨c.toArray⟩] w λe v=>e=.returned (.string ⟨R.toArray⟩)/\Below w.heap.size w v:=by
 obtain⟨g,rfl,r,s⟩:=Jk h t;have z:n<=f:=by
  rcases h.2 with⟨_,p⟩|⟨g,f,y,u,_,_,o,p,_⟩;·omega
  ·cases u;exact o
 have l:(L.map (λb=>ByteArray.mk b.toArray)).map (·.data.toList)=L:=by
  rw[List.map_map];conv=>rhs;rw[<-List.map_id L]
  apply List.map_congr_left;intro a _;simp
 have i:=zpv g 0 f (L.map (λb=>ByteArray.mk b.toArray)) ⟨c.toArray⟩ w (by
  intro j x d;rw[List.getElem?_map]at d;have i:j<L.length:=by
   rcases Nat.lt_or_ge j L.length with h|h;·exact h
   ·rw[List.getElem?_eq_none h]at d;cases d
  rw[List.getElem?_eq_getElem i]at d;simp only[Option.map_some,Option.some.injEq]at d;rw[Nat.zero_add,r j (by omega),List.getElem?_map,List.getElem?_eq_getElem i];simp only[Option.map_some,Option.some.injEq];rw[<-d];rfl) s (by rw[List.length_map];omega) (by rw[List.length_map];omega) (by rw[l,show(ByteArray.mk c.toArray).data.toList=c from by simp,k];omega)
 rw[l,show(ByteArray.mk c.toArray).data.toList=c from by simp,k,List.length_map,q]at i;exact i
def PlS(k:Nat):Prop:=∀(w:World) (A:Nat->Prop) (s:Seq) (u:Value),QX w A s u->YO s<=k->wtS s<=500000->Calls P 106 #[u] w λe a=>e=.returned (.string ⟨(znd s).toArray⟩)/\Below w.heap.size w a
theorem zpj:∀(s:List Term) (j:Nat) (a:j<s.length),wtT s[j]<=wtS s
 |[],_,a=>by simp at a
 |t::s,0,_=>by simp only[wtS,List.getElem_cons_zero];omega
 |t::s,j+1,a=>by simp only[wtS,List.getElem_cons_succ];have:=zpj s j (by simpa using a);omega
theorem zpk:∀(s:List Term),s.length<=wtS s
 |[]=>by simp
 |t::s=>by have:=zpk s;simp only[wtS,List.length_cons];omega
theorem zqf(s:List Term):(znd s).length<=wtS s:=by
 cases s with
 |nil=>simp[znd,wtS]|cons t s=>have:=zo0 (t::s);simpa only[znd]using this
theorem zph:∀(c:List (List Term)) (j:Nat) (a:j<c.length),wtS c[j]<=wtC c
 |[],_,a=>by simp at a
 |[s],j,a=>by
  have:j=0:=by simp at a;exact a
  subst this;simp only[wtC,List.getElem_cons_zero];omega
 |s::b::c,0,_=>by simp only[wtC,List.getElem_cons_zero];omega
 |s::b::c,j+1,a=>by have:=zph (b::c) j (by simpa using a);simp only[wtC,List.getElem_cons_succ];omega
theorem zpi:∀(c:List (List Term)),c.length<=wtC c
 |[]=>by simp
 |[s]=>by simp only[wtC,List.length_singleton];omega
 |s::a::c=>by have:=zpi (a::c);simp only[wtC,List.length_cons]at *;omega
theorem zqi(k:Nat)(M:PlT k):PlS k:=by
 intro w A s u hp z o;obtain⟨d,⟨j,L⟩,n⟩:=hp;obtain⟨ua,uc,rfl⟩:=zl j;have Z:=zpk s;by_cases l:s=[];·subst l;simp only[List.length_nil,znd];clear j L n z o M Z;go_enter func106,ntmps106;go_wp2_with fail;go_ret;exact⟨rfl,Below.refl _ _⟩
 ·have Y:0<s.length:=List.length_pos_iff.2 l;have K:Hid (s.length=d.length):=zD.length n;obtain⟨i0,ab,ai,aj,al⟩:=info_parts infoString;obtain⟨r,V,ao⟩:=zoY s.length (by omega) w;obtain⟨g,rfl,U,y⟩:=Jk j Y;have a6:Hid (Below w.heap.size w (w.alloc (.cells r 9))/\(w.alloc (.cells r 9)).ownsRow w.heap.size 9 1 (.slice (S ⟨w.heap.size,0,N⟩) 0 s.length) 0 (((s.map prT).take 0).map znn)):=⟨zc _ _,World.ownsRow_made w r s.length (Nat.le_refl _) (by unfold maxLen;omega) V⟩;have HJ:=z6 (zqe s l);have a5:=z6 (Nat.le_trans (zqf s) o);have h0:¬(s.length:Int)=0:=by omega
  have an:((s.length:Int)==0)=false:=by simpa using h0
  have ap:s.length<=500000:=by omega
  have a8:=z6 n;have q:=z6 U;have HK:=z6 z;have HW:=z6 o;clear j L n z o Z l V U;go_enter func106,ntmps106;go_wp2_with fail;go_loopg[3,14] s.length (λm vo vi wr=>∃i:Nat,m=s.length-i/\vi=I J i/\i<=s.length/\Hid (Below w.heap.size w wr/\wr.ownsRow w.heap.size 9 1 vo i (((s.map prT).take i).map znn)));case atStart=>exact⟨0,by omega,rfl,by omega,a6⟩
  case round=>
   obtain⟨i,rfl,rfl,hi,c⟩:=hrel;have a1:=c.out.1.size;obtain⟨oa,oc,ag⟩:=zl c.out.2;subst ag;by_cases e:i<s.length
   ·have ae:(i:Int)<s.length:=by omega
    have h:i<d.length:=by have:=K.out;omega
    obtain⟨t0,t1,t2⟩:=V1 s d K.out i e;have c0:wr.cell? ⟨g,i *3,N⟩=S (I .u8 s[i].ahead.toNat):=by rw[c.out.1.cell (p:=⟨g,_,N⟩) y,q.out _ (by omega)];exact t0
    have a9:wr.cell? ⟨g,i *3+1,N⟩=S (d[i]'h):=by rw[c.out.1.cell (p:=⟨g,_,N⟩) y,q.out _ (by omega)];exact t1
    have am:wr.cell? ⟨g,i *3+2,N⟩=S (I .u8 s[i].behind.toNat):=by rw[c.out.1.cell (p:=⟨g,_,N⟩) y,q.out _ (by omega)];exact t2
    have f:=zD.get a8.out i e h;have E:=λO=>M (wr.alloc O) A s[i] (d[i]'h) (Zk.kept (ZF (c.out.1.alloc a1 O)) _ _ f) (Nat.le_trans (KI s i e) HK.out) (Nat.le_trans (zpj s i e) HW.out);obtain⟨tt,xx,G⟩:∃t x,d[i]'h=.iface t x:=by
     cases af:s[i]with
     |mk a aq b=>rw[af]at f;simp only[Zk]at f;exact zp.oneCell f
    rw[G]at a9;simp only[G,QN]at E;have a0:((s.map prT).take (i+1)).map znn=((s.map prT).take i).map znn++[znn (prT s[i])]:=by rw[List.take_succ_eq_append_getElem (by simpa using e),List.map_append];simp
    have a7:=z6 a0;generalize prT s[i]=T at *;generalize s[i].ahead=ah at *;generalize s[i].behind=be at *;clear f t0 t1 t2 G a0;go_wp2_with fail;refine(E _).mono ?_;rintro _ w1⟨rfl,v⟩;have ak:=v.size;simp at ak;have H:=z6 ((zc wr _).trans (v.mono (by simp)));have D:=Zv c.out.2 H.out;clear E v;go_wp2_with(first|(at_builtin;refine wpList_append_own_at _ rfl _ _ 58 rfl (w.heap.size) 9 i0 _ 1 16 underlying58 ab ai aj al rfl (by decide) _ _ _ rfl (D.alloc _) ⟨w1.heap.size,0,N⟩ 1 1 [.string ⟨T.toArray⟩] rfl rfl ?c1 ?c2 ?c3 ?c4 ?c5 ?_));case c1=>exact cell_one_new _ _ _
    case c2=>intro u hu;simp at hu;subst hu;rfl
    case c3=>unfold maxLen;omega
    case c4=>omega
    case c5=>simp;omega
    intro v' w5 B W _ aa;obtain⟨va,vc,hv⟩:=zl B;subst hv;have HN:Hid (Below w.heap.size w w5/\w5.ownsRow w.heap.size 9 1 (.slice va (i+1) vc) (i+1) (((s.map prT).take (i+1)).map znn)):=by refine⟨ze1 c.out.1 D H.out W,?_⟩;rw[a7.out,List.map_take,List.map_map];exact B
    clear B W aa D;go_wp2_with fail;go_roundg (s.length-(i+1));case measure=>omega
    case rel=>exact⟨i+1,rfl,by go_num,by omega,HN⟩
   ·have ae:¬(i:Int)<s.length:=by omega
    have ad:i=s.length:=by omega
    subst ad;have a2:(s.map prT).take s.length=s.map prT:=List.take_of_length_le (by simp);have F:=c.out.2;rw[a2]at F;have X:=zoV F (by simp) Y (by omega) HJ.out (by have:=a5.out;omega);have a4:=z6 X;clear a2 F X;go_wp2_with fail;refine a4.out.mono ?_;rintro _ w6⟨rfl,R⟩;have a3:=z6 (c.out.1.trans (R.mono a1));clear R;go_wp2_with fail;go_ret;exact⟨rfl,a3.out⟩
theorem infoIntsRow:(prog.info? 40).map (λi=>(i.zero,i.size,i.bytes))=S (S (.slice N 0 0),1,24):=by kernel_rfl
theorem infoInt':(prog.info? 3).map (λi=>(i.zero,i.size,i.bytes))=S (S (I J 0),1,8):=by kernel_rfl
theorem zgr(n:Nat)(g:n<=1000000)(w:World):∃a:Array Value,a.size=n/\(Instr.makeSlice 40 (I J n) (I J n)).run prog w=.ok (.slice (S ⟨w.heap.size,0,N⟩) n n) (w.alloc (.cells a 3)):=by
 obtain⟨b,c,d,e,f⟩:=info_parts infoInt';refine⟨madeCells (Value.int J 0).cells (((n:Nat):Int).toNat *b.size),?_,?_⟩;·rw[size_madeCells,e];simp
 ·have h:=run_make (P:=prog) w 40 3 b _ underlying40 c d J J (n:Int) (n:Int) (by omega) (by omega) (by rw[f];omega) (by omega);simpa using h
theorem zgs(n:Nat)(d:n<=100000)(w:World):∃a:Array Value,a.size=n+1/\(Instr.makeSlice 40 (I J ((n:Int)+1)) (I J ((n:Int)+1))).run P w=.ok (.slice (S ⟨w.heap.size,0,N⟩) (n+1) (n+1)) (w.alloc (.cells a 3)):=by obtain⟨a,c,b⟩:=zgr (n+1) (by omega) w;rw[show(((n+1:Nat)):Int)=(n:Int)+1 from by omega]at b;exact⟨a,c,b⟩
abbrev UV(n b:Nat):Value:=.slice (S ⟨b,0,N⟩) n n
structure YM(w:World)(vx vr:Value)(s:ByteArray)(rbs:List Nat)(vo:Value)(wr:World):Prop where
 below:Below w.heap.size w wr
 box:wr.heap[w.heap.size]?=some (YB vx vr)
 tr:wr.heap[w.heap.size+1]?=some (.cells #[vx,vr,.string s,vo] 161 (0,0))
 own:wr.ownsRow w.heap.size 40 1 vo rbs.length (rbs.map (UV (s.size+1)))
 row:∀j (h:j<rbs.length),wr.heap[rbs[j]]?=some (KM (JB (s.size+1) (λ_=> -2)))
 nodup:rbs.Nodup
 ge:∀b∈rbs,w.heap.size+2<=b
structure Kr(n k:Nat)(lb:Nat)(Wm wr:World):Prop where
 row:∃cur:Array Value,wr.heap[lb]?=some (.cells cur 3 (0,0))/\cur.size=n/\∀j,j<k->cur[j]?=some (.int .i64 (-2))
 kp:KpM [lb] Wm.heap.size Wm wr
theorem zeR{n a:Nat}{Wm wr:World}(h:Kr n n a Wm wr):wr.heap[a]?=S (KM (JB n (λ_=> -2))):=by
 obtain⟨b,c,d,e⟩:=h.row;rw[c];have:b=((JB n (λ_=> -2)).map (Value.int J)).toArray:=by
  apply Array.ext;·simp[JB,d]
  ·intro i f g;have:=e i (by omega);rw[Array.getElem?_eq_getElem f]at this;simp[JB];exact Option.some.inj this
 rw[this];rfl
theorem YM.kept{w:World}{g f:Value}{s:ByteArray}{d:List Nat}{e:Value}{b wr:World}(h:YM w g f s d e b)(a:Below b.heap.size b wr):YM w g f s d e wr:=by have i:=h.below.size;exact⟨h.below.trans (a.mono i),by rw[a.block _ (zd h.box)];exact h.box,by rw[a.block _ (zd h.tr)];exact h.tr,Zv h.own a,λj c=>by rw[a.block _ (zd (h.row j c))];exact h.row j c,h.nodup,h.ge⟩
theorem Kr.below{n k:Nat}{c Wm wr:World}(a:Below c.heap.size c Wm)(h:Kr n k c.heap.size Wm wr):Below c.heap.size c wr:=by have e:=a.size;exact⟨h.kp.os.trans a.os,h.kp.tape.trans a.tape,h.kp.output.trans a.output,Nat.le_trans e h.kp.size,λb d=>(h.kp.block b (by omega) (by simp;omega)).trans (a.block b d)⟩
theorem YM.push{w:World}{D B:Value}{s:ByteArray}{g:List Nat}{i d:Value}{wr k:World}{O:Obj}{l:Nat}(h:YM w D B s g i wr)(A:wr.heap[l]?=S (KM (JB (s.size+1) (λ_=> -2))))(L:l∉g)(J:w.heap.size+2<=l)(R:k.ownsRow w.heap.size 40 1 d (g.length+1) (g.map (UV (s.size+1))++[UV (s.size+1) l]))(n:(wr.alloc O).grownBy k i.ownBlock)(F:d.ownBlock=i.ownBlock\/d.ownBlock=S (wr.heap.size+1)):YM w D B s (g++[l]) d (k.setCell ⟨w.heap.size+1,3,N⟩ d):=by
 have W:=h.below.size;have X:=zd h.tr;have V:=n.size;simp at V;have y:i.ownBlock≠S (w.heap.size+1):=zn h.own h.tr (by decide);have M:i.ownBlock≠S w.heap.size:=zn h.own h.box (by decide);have x:∀b v,wr.heap[b]?=S (.cells v 3 (0,0))->i.ownBlock≠S b:=λb v c=>zn h.own c (by decide);have m:∀b f,wr.heap[b]?=S f->i.ownBlock≠S b->k.heap[b]?=S f:=by intro b f c r;have H:=zd c;rw[n.block b (by simp;omega) (λe=>r e.symm),zm _ _ H];exact c
 have t:∀b f,k.heap[b]?=S f->b≠w.heap.size+1->(k.setCell ⟨w.heap.size+1,3,N⟩ d).heap[b]?=S f:=λb f c r=>by rw[Below.heap_setCell _ _ _ _ r];exact c
 have U:d.ownBlock≠S (w.heap.size+1):=by
  rcases F with e|e;·rw[e];exact y
  ·rw[e];simp;omega
 refine⟨?_,t _ _ (m _ _ h.box M) (by omega),?_,?_,?_,?_,?_⟩;·have G:Below w.heap.size w k:=ze1 h.below h.own (Below.refl _ _) n;exact G.setCell (p:=⟨w.heap.size+1,3,N⟩) (by show w.heap.size<=w.heap.size+1;omega) _
 ·rw[zo (m _ _ h.tr y)];rfl
 ·have:=zc1 (o:=3) (u:=d) R U;rw[List.length_append,List.map_append];exact this
 ·intro j K;rw[List.length_append,List.length_singleton]at K;by_cases q:j<g.length;·rw[List.getElem_append_left q];have z:=h.row j q;refine t _ _ (m _ _ z (x _ _ z)) ?_;have:=h.ge _ (List.getElem_mem q);omega
  ·have:j=g.length:=by omega
   subst this;rw[List.getElem_append_right (Nat.le_refl _)];simp only[Nat.sub_self,List.getElem_cons_zero];exact t _ _ (m _ _ A (x _ _ A)) (by omega)
 ·rw[List.nodup_append];exact⟨h.nodup,by simp,λa E b c=>by simp at c;subst c;exactλe=>L (e▸E)⟩
 ·intro b c;rcases List.mem_append.1 c with c|c;·exact h.ge b c
  ·simp at c;subst c;exact J
theorem zgK(w:World)(g:Option Addr)(c l:Nat)(O:Value)(n:Option Addr)(p o:Nat)(ak:O=.slice n p o)(s:ByteArray)(hs:s.size<=200)(hx:c<=10000)(aB:0<c):Calls P 111 #[.agg #[.slice g c l,O],.string s] w λe w'=>∃z ec a,a.length=c/\e=.returned (.pointer (S ⟨w.heap.size+1,0,N⟩))/\Y1 w w' (w.heap.size+1) z ec (.slice g c l) O s a (λ_ _=> -2)/\Below w.heap.size w w':=by
 subst ak;obtain⟨i0,a8,am,an,ao⟩:=info_parts infoIntsRow;have a3:Hid (YM w (.slice g c l) (.slice n p o) s [] (.slice N 0 0) ((w.alloc (YB (.slice g c l) (.slice n p o))).alloc (.cells #[.slice g c l,.slice n p o,.string s,.slice N 0 0] 161))):=by
  refine⟨(zc _ _).alloc (by simp) _,?_,?_,World.ownsRow_nil _ _ _ _,λj h=>by simp at h,by simp,λb h=>by simp at h⟩;·rw[zm _ _ (by simp)];exact zk _ _
  ·have:=zk (w.alloc (YB (.slice g c l) (.slice n p o))) (.cells #[.slice g c l,.slice n p o,.string s,.slice N 0 0] 161);simpa using this
 go_enter func111,ntmps111;go_wp2_with fail;go_loopg[6] c (λm vi wr=>∃(a:List Nat) (vo:Value),m=c-a.length/\vi=I J a.length/\a.length<=c/\Hid (YM w (.slice g c l) (.slice n p o) s a vo wr));case atStart=>exact⟨[],.slice N 0 0,by simp,rfl,by simp,a3⟩
 case round=>
  obtain⟨a,vo,rfl,rfl,hi,d⟩:=hrel;obtain⟨f,al⟩:∃f,f=wr:=⟨_,rfl⟩;subst al;have qb:=z8 d.out.box;have aC:=za d.out.box;have qt:=z8 d.out.tr;have aD:=za d.out.tr;obtain⟨oa,D,aj⟩:=zl d.out.own;subst aj;by_cases az:a.length<c
  ·have ae:(a.length:Int)<c:=by omega
   obtain⟨G,A,af⟩:=zgs s.size (by omega) f;obtain⟨Wm,t⟩:∃Wm,Wm=f.alloc (.cells G 3):=⟨_,rfl⟩;have U:Wm.heap[f.heap.size]?=S (.cells G 3 (0,0)):=by rw[t];exact zk _ _
   have aq:Wm.heap.size=f.heap.size+1:=by rw[t];simp
   have R:Below f.heap.size f Wm:=by rw[t];exact zc _ _
   have a1:Hid (Kr (s.size+1) 0 f.heap.size Wm Wm):=⟨⟨G,U,A,λj x=>by omega⟩,KpM.refl _ _ _⟩;have a4:=z6 R;rw[<-t]at af;clear t U R;go_wp2_with fail;go_loopg[8] (s.size+1) (λm v wr=>∃k:Nat,m=s.size+1-k/\v=I J k/\k<=s.size+1/\Hid (Kr (s.size+1) k f.heap.size Wm wr));case atStart=>exact⟨0,by omega,rfl,by omega,a1⟩
   case round=>
    obtain⟨k,rfl,rfl,hk,r⟩:=hrel;obtain⟨F,u,a5,H⟩:=r.out.row;have av:=za u;have ay:=r.out.kp.size;by_cases ax:k<s.size+1
    ·have ab:(k:Int)<(s.size:Int)+1:=by omega
     have Y:k<F.size:=by omega
     have au:wr.cell? ⟨f.heap.size,k,N⟩=S F[k]:=by rw[z8 u];exact Array.getElem?_eq_getElem Y
     have aw:wr.frozen? ⟨f.heap.size,k,N⟩=false:=zi u k;have HN:Hid (Kr (s.size+1) (k+1) f.heap.size Wm (wr.setCell ⟨f.heap.size,k,N⟩ (I J (-2)))):=by
      refine⟨⟨F.setIfInBounds k (I J (-2)),zo u _,by simpa using a5,?_⟩,r.out.kp.set (by simp) _⟩;intro j x;rw[Array.getElem?_setIfInBounds];by_cases e:k=j;·subst e;simp[Y]
      ·rw[if_neg e];exact H j (by omega)
     clear H;go_wp2_with fail;go_roundg (s.size+1-(k+1));case measure=>omega
     case rel=>exact⟨k+1,rfl,by go_num,by omega,HN⟩
    ·have ab:¬(k:Int)<(s.size:Int)+1:=by omega
     have aa:k=s.size+1:=by omega
     subst aa;have a0:=zeR r.out;have W:=r.out.below a4.out;have y:=d.out.kept W;have aE:=z8 y.tr;have ap:=za y.tr;have M:=y.own;have ar:=W.size;have aA:=d.out.below.size;have E:=z6 y;have a2:=z6 a0;have ah:f.heap.size∉a:=by intro q;obtain⟨j,x,X⟩:=List.getElem_of_mem q;have:=zd (d.out.row j x);omega
     clear H u a0 y qt qb;go_wp2_with(first|(at_builtin;refine wpList_append_own_at _ rfl _ _ 159 rfl (w.heap.size) 40 i0 _ 1 24 underlying159 a8 am an ao rfl (by decide) _ _ _ rfl (M.alloc _) ⟨wr.heap.size,0,N⟩ 1 1 [UV (s.size+1) f.heap.size] rfl rfl ?c1 ?c2 ?c3 ?c4 ?c5 ?_));case c2=>rfl
     case c3=>unfold maxLen;omega
     case c4=>omega
     case c5=>omega
     intro v' w5 L K _ V;have HP:=z6 (E.out.push a2.out ah (by omega) L K V);obtain⟨va,vc,hv⟩:=zl L;subst hv;have Z:(Value.slice oa a.length D).ownBlock≠S (w.heap.size+1):=zn M E.out.tr (by decide);have B:w5.heap[w.heap.size+1]?=S (.cells #[.slice g c l,.slice n p o,.string s,.slice oa a.length D] 161 (0,0)):=by rw[K.block _ (by simp;omega) (λe=>Z e.symm),zm _ _ ap];exact E.out.tr
     have q5:=z8 B;have f5:=zi B 3;have l5:=za B;clear L K V M Z B;go_wp2_with fail;go_roundg (c-(a++[f.heap.size]).length);case measure=>rw[List.length_append,List.length_singleton];omega
     case rel=>exact⟨a++[f.heap.size],_,rfl,by rw[List.length_append,List.length_singleton];go_num,by rw[List.length_append,List.length_singleton];omega,HP⟩
  ·have ae:¬(a.length:Int)<c:=by omega
   have ad:a.length=c:=by omega
   have ai:0<a.length:=by omega
   obtain⟨z,a6,A,a7⟩:=Jk d.out.own ai;subst a6;have HT:Hid (Y1 w f (w.heap.size+1) z D (.slice g c l) (.slice n p o) s a (λ_ _=> -2)):=by
    have ag:∀b∈a,w.heap.size<=b:=λb q=>by have:=d.out.ge b q;omega
    refine⟨d.out.below.size,d.out.below.block,d.out.tr,a7,?_,d.out.row,d.out.nodup,ag,?_,?_⟩;·intro i a9;rw[A i (by omega),List.getElem?_map,List.getElem?_eq_getElem a9];rfl
    ·intro q;have:=d.out.ge _ q;omega
    ·intro q;obtain⟨j,x,X⟩:=List.getElem_of_mem q;have:=zn d.out.own (d.out.row j x) (by decide);exact this (by rw[X];rfl)
   clear A;go_wp2_with fail;go_ret;exact⟨z,D,a,ad,rfl,HT.out,d.out.below⟩
theorem zfJ(k:Nat):(k=1\/k=2\/k=3)\/k=4\/k=5\/k=6\/k=9\/(k≠1/\k≠2/\k≠3/\k≠4/\k≠5/\k≠6/\k≠9):=by omega
abbrev exO(k:Nat)(a:Value)(t:z7)(r:Int)(b:Value):Obj:=.cells #[I J k,a,.string ⟨t.toArray⟩,I J r,b] 149
theorem zhQ(w:World)(B gb lb:Nat)(vx vr:Value)(f:List (RE×Value×Value))(c:List (z7×Nat))(l:List Bool)(i:Nat)(h:GM w B gb vx vr (f.map (ZY (zj c))) c)(hF:K5 f c)(V:w.heap[lb]?=S (zH l))(af:l.length=f.length)(hi:i<f.length)(a6:0<c.length):Calls P 103 #[.pointer (S ⟨gb,0,N⟩),I J i,.slice (S ⟨lb,0,N⟩) f.length f.length] w λe w'=>e=.returned (.bool (Z3 (zK f) (zj c) (Zp c) l i))/\Below w.heap.size w w':=by
 obtain⟨p,xg,xc,Z,ic,pa,pc,hp,a2,rfl,al,F,c1,c2,c3,c4,ag,ah,R⟩:=h.exp hi;obtain⟨rg,rc,rfl,ai,aj⟩:=h.ruAt a6;have ae:=za V;have ab:=h.lt;have q:=z8 h.blk;have A:=h.ruCells;have r:(zK f)[i]?=S p.1:=by rw[List.getElem?_map,hp];rfl
 have a0:=hF.ex p a2;have ad:(i:Int)<f.length:=by omega
 have u:=z6 r;have L:=z6 a0;have HF:=z6 hF;have M:=z6 V;clear a2 r a0 hF V h hp;have n:=z6 (zc w (exO p.1.kind (.slice Z p.1.items.length ic) p.1.text (rfE (zj c) p.1 0) (.slice pa p.1.parts.length pc)));rcases zfJ p.1.kind with g|g|g|g|g|g
 ·have d:Z3 (zK f) (zj c) (Zp c) l i=false:=by simp only[Z3,u.out];rw[if_pos g]
  rw[d];rcases g with g|g|g;all_goals rw[g]at F;go_enter func103,ntmps103;go_wp2_with fail;go_ret;exact⟨rfl,by rw[g]at n;exact n.out⟩
 ·rw[g]at F n;have z:=KU (names:=zj c) g;by_cases t:(zj c).contains p.1.text=true
  ·rw[if_pos t]at z;have O:(zj c).idxOf p.1.text<c.length:=by have:=List.idxOf_lt_length_iff.2 (show p.1.text∈zj c by simpa using t);simpa using this
   obtain⟨x,r⟩:∃x,x=(zj c).idxOf p.1.text:=⟨_,rfl⟩;rw[<-r]at z O;obtain⟨d0,d1⟩:=A x O;have a9:=HF.out.ru c[x] (List.getElem_mem O);have s:=Y4 M.out c[x].2 (by omega);have d:Z3 (zK f) (zj c) (Zp c) l i=l.getD c[x].2 false:=by simp only[Z3,u.out,g,t, <-r];simp[O]
   rw[d];rw[z]at c3 n;have ak:(0:Int)<=x:=by omega
   have am:(x:Int)<c.length:=by omega
   have aa:(c[x].2:Int)<f.length:=by omega
   obtain⟨b,o⟩:∃b,b=l.getD c[x].2 false:=⟨_,rfl⟩;rw[<-o]at s|-;clear d r t z A d0 o;go_enter func103,ntmps103;go_wp2_with fail;go_quiet(fail);go_wp2_with fail;go_ret;exact⟨rfl,below_drewN n.out _⟩
  ·have d:Z3 (zK f) (zj c) (Zp c) l i=false:=by simp only[Z3,u.out,g];simp at t;simp[t]
   rw[if_neg t]at z;rw[d];rw[z]at c3 n;clear d t z A;go_enter func103,ntmps103;go_wp2_with fail;go_quiet(fail);go_wp2_with fail;go_ret;exact⟨rfl,below_drewN n.out _⟩
 ·rw[g]at F n;have d:Z3 (zK f) (zj c) (Zp c) l i=p.1.parts.all (λk=>l.getD k false):=by simp only[Z3,u.out,g];simp
  have E:=z6 d;clear d A;go_enter func103,ntmps103;go_wp2_with fail;go_loopg[8] p.1.parts.length (λm v wr=>∃k:Nat,m=p.1.parts.length-k/\v=I J k/\k<=p.1.parts.length/\wr=w.alloc (exO 5 (.slice Z p.1.items.length ic) p.1.text (rfE (zj c) p.1 0) (.slice pa p.1.parts.length pc))/\Hid (∀j (h:j<p.1.parts.length),j<k->l.getD p.1.parts[j] false=true));case atStart=>exact⟨0,by omega,rfl,by omega,rfl,λj h h'=>by omega⟩
  case round=>
   obtain⟨k,rfl,rfl,a5,rfl,D⟩:=hrel;by_cases y:k<p.1.parts.length
   ·have X:(k:Int)<p.1.parts.length:=by omega
    obtain⟨pg,rfl,a1,Y⟩:=R k y;have a3:=L.out.1 p.1.parts[k] (List.getElem_mem y);have a4:(p.1.parts[k]:Int)<f.length:=by omega
    have s:=Y4 M.out p.1.parts[k] (by omega);by_cases o:l.getD p.1.parts[k] false=true
    ·rw[o]at s;have U:Hid (∀j (h:j<p.1.parts.length),j<k+1->l.getD p.1.parts[j] false=true):=by
      intro j h K;by_cases W:j=k;·subst W;exact o
      ·exact D.out j h (by omega)
     go_wp2_with fail;go_roundg (p.1.parts.length-(k+1));case measure=>omega
     case rel=>exact⟨k+1,rfl,by go_num,by omega,rfl,U⟩
    ·have H:l.getD p.1.parts[k] false=false:=by simpa using o
     rw[H]at s;have d:Z3 (zK f) (zj c) (Zp c) l i=false:=by rw[E.out,List.all_eq_false];exact⟨_,List.getElem_mem y,by rw[H];simp⟩
     go_wp2_with fail;go_ret;first|exact⟨rfl,n.out⟩|exact⟨congrArg (λb=>Ending.returned (Value.bool b)) d.symm,n.out⟩
   ·have X:¬(k:Int)<p.1.parts.length:=by omega
    have d:Z3 (zK f) (zj c) (Zp c) l i=true:=by rw[E.out,List.all_eq_true];intro x r;obtain⟨j,K,rfl⟩:=List.getElem_of_mem r;exact D.out j K (by omega)
    go_wp2_with fail;go_ret;first|exact⟨rfl,n.out⟩|exact⟨congrArg (λb=>Ending.returned (Value.bool b)) d.symm,n.out⟩
 ·rw[g]at F n;have d:Z3 (zK f) (zj c) (Zp c) l i=p.1.parts.any (λk=>l.getD k false):=by simp only[Z3,u.out,g];simp
  have E:=z6 d;clear d A;go_enter func103,ntmps103;go_wp2_with fail;go_loopg[9] p.1.parts.length (λm v wr=>∃k:Nat,m=p.1.parts.length-k/\v=I J k/\k<=p.1.parts.length/\wr=w.alloc (exO 6 (.slice Z p.1.items.length ic) p.1.text (rfE (zj c) p.1 0) (.slice pa p.1.parts.length pc))/\Hid (∀j (h:j<p.1.parts.length),j<k->l.getD p.1.parts[j] false=false));case atStart=>exact⟨0,by omega,rfl,by omega,rfl,λj h h'=>by omega⟩
  case round=>
   obtain⟨k,rfl,rfl,a5,rfl,D⟩:=hrel;by_cases y:k<p.1.parts.length
   ·have X:(k:Int)<p.1.parts.length:=by omega
    obtain⟨pg,rfl,a1,Y⟩:=R k y;have a3:=L.out.1 p.1.parts[k] (List.getElem_mem y);have a4:(p.1.parts[k]:Int)<f.length:=by omega
    have s:=Y4 M.out p.1.parts[k] (by omega);by_cases o:l.getD p.1.parts[k] false=true
    ·rw[o]at s;have d:Z3 (zK f) (zj c) (Zp c) l i=true:=by rw[E.out,List.any_eq_true];exact⟨_,List.getElem_mem y,o⟩
     go_wp2_with fail;go_ret;first|exact⟨rfl,n.out⟩|exact⟨congrArg (λb=>Ending.returned (Value.bool b)) d.symm,n.out⟩
    ·have H:l.getD p.1.parts[k] false=false:=by simpa using o
     rw[H]at s;have U:Hid (∀j (h:j<p.1.parts.length),j<k+1->l.getD p.1.parts[j] false=false):=by
      intro j h K;by_cases W:j=k;·subst W;exact H
      ·exact D.out j h (by omega)
     go_wp2_with fail;go_roundg (p.1.parts.length-(k+1));case measure=>omega
     case rel=>exact⟨k+1,rfl,by go_num,by omega,rfl,U⟩
   ·have X:¬(k:Int)<p.1.parts.length:=by omega
    have d:Z3 (zK f) (zj c) (Zp c) l i=false:=by rw[E.out,List.any_eq_false];intro x r;obtain⟨j,K,rfl⟩:=List.getElem_of_mem r;rw[D.out j K (by omega)];simp
    go_wp2_with fail;go_ret;first|exact⟨rfl,n.out⟩|exact⟨congrArg (λb=>Ending.returned (Value.bool b)) d.symm,n.out⟩
 ·obtain⟨a,G⟩:=L.out.2.1 (by omega);have a7:=L.out.1 a (by rw[G];simp);have d:Z3 (zK f) (zj c) (Zp c) l i=l.getD a false:=by simp only[Z3,u.out,g,G];simp
  obtain⟨pg,rfl,a1,Y⟩:=R 0 (by rw[G];simp);simp only[G,List.getElem_cons_zero]at Y;have s:=Y4 M.out a (by omega);rw[d];obtain⟨b,o⟩:∃b,b=l.getD a false:=⟨_,rfl⟩;rw[<-o]at s|-;rw[g]at F n;simp only[G,List.length_singleton]at c4 n;have a8:(a:Int)<f.length:=by omega
  clear d A o R;go_enter func103,ntmps103;go_wp2_with fail;go_ret;exact⟨rfl,n.out⟩
 ·have d:Z3 (zK f) (zj c) (Zp c) l i=true:=by simp only[Z3,u.out];simp[g]
  rw[d];have g1:¬(p.1.kind:Int)=1:=by omega
  have g2:¬(p.1.kind:Int)=2:=by omega
  have g3:¬(p.1.kind:Int)=3:=by omega
  have g4:¬(p.1.kind:Int)=4:=by omega
  have g5:¬(p.1.kind:Int)=5:=by omega
  have g6:¬(p.1.kind:Int)=6:=by omega
  have g9:¬(p.1.kind:Int)=9:=by omega
  go_enter func103,ntmps103;go_wp2_with fail;go_ret;exact⟨rfl,n.out⟩
end
end Go.Proofs.YtiganlkabilblaaGreatDoor
