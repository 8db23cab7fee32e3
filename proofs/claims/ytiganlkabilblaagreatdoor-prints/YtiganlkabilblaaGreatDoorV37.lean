import Derived.Test.YtiganlkabilblaaGreatDoorV36
import Derived.Test.YtiganlkabilblaaGreatDoorV17
import Derived.Test.YtiganlkabilblaaGreatDoorV12
import Derived.Deep.RegionHeldLaw
set_option linter.all false
set_option maxHeartbeats 64000000
set_option maxRecDepth 100000
namespace Go.Proofs.YtiganlkabilblaaGreatDoor
open Tryz
open Tryz renaming prog->P
open Option renaming some->S,none->N
open Value renaming int->I
open IntKind renaming i64->J
section
open Go.RowKit
attribute [local go_sem ↓] Go.wp_at_zero Go.wp_at_succ
theorem zdm{w:World}{f:Array Oper}{g:List Oper}{o:Oper}{a:Act}{Q:Exit->Act->World->Prop}(q:o.guard=N)(s x:Operand)(r:o.op=.call {callee:=.builtin .append,args:=#[s,x],argTypes:=#[40,40]})(B j:Nat)(v i:Value)(e d:List Nat)(u:a.eval s=v)(y:Q1 w B v e)(z:a.eval x=i)(A:Ints w j i d)(p:e.length+d.length<=200000)(m:B<=w.heap.size)(h:∀c b,Q1 b B c (e++d)->Fr B w b->wpList P f Q g (a.put o.dst c) b):wpList P f Q (o::g) a w:=by refine wpList_plain q λK n=> ?_;obtain⟨c,b,t,k,l⟩:=ziw o.type y A p m;unfold Oper.wp;simp[execOp,r,resolve,invoke,builtin,u,z,t,Result.andThen];exact n _ _ (h c b k l)
theorem Q1.nil0{w:World}{B:Nat}(a:Option Addr):Q1 w B (.slice a 0 0) []:=⟨a,0,0,0,rfl,⟨Nat.le_refl _,λh=>absurd h (by omega),λh=>absurd h (by omega),rfl,λj u c=>by simp at c,λj b=>by simp at b⟩,λh=>absurd h (by omega),by omega⟩
theorem Q1.other{w i:World}{B:Nat}{v:Value}{g:List Nat}(h:Q1 w B v g)(t:w.heap.size<=i.heap.size)(l:∀k,k<w.heap.size->B<=k->i.heap[k]?=w.heap[k]?):Q1 i B v g:=by
 obtain⟨q,b,p,e,r,c,f,s⟩:=h;refine⟨q,b,p,e,r,⟨c.le,c.addr,λh=>Nat.lt_of_lt_of_le (c.lt h) t,c.oldsLen,?_,?_⟩,f,s⟩
 ·intro j u o;have n:j<g.length:=by have:=(List.getElem?_eq_some_iff.1 o).1;simpa using this
  have d:0<e:=by have:=c.le;omega
  rw[World.cell?_of_block (a:=⟨b,p+j,N⟩) (l b (c.lt d) (f d))];exact c.olds j u o
 ·intro j n;have:=c.spare j n;have d:0<e:=by omega
  have m:=l b (c.lt d) (f d);rw[World.cell?_of_block (a:=⟨b,_,N⟩) m,World.frozen?_of_block (a:=⟨b,_,N⟩) m];exact this
structure U3(w:World)(M:Mat)(n rule:Nat)(todo:List Nat)(seen:List Bool)(v:Value)(wr:World):Prop where
 below:Below w.heap.size w wr
 row:wr.heap[w.heap.size]?=some (zH seen)
 tv:Q1 wr (w.heap.size+1) v todo
 inv:JH M n rule todo seen
theorem zhV(w:World)(B F lb:Nat)(vx vr:Value)(ps:List (RE×Value×Value))(d:List (z7×Nat))(l:List Bool)(M:Mat)(n:Nat->List Nat)(f:Nat)(h:GM w B F vx vr (ps.map (ZY (zj d))) d)(hL:w.heap[lb]?=S (zH l))(aS:d.length<=20)(X:f<d.length)(ah:∀k (hk:k<d.length),qB B F lb vx vr ps d l d[k].2 (n k))(hM:∀k j,k<d.length->(M k j=true↔j∈n k))(hn:∀k j,k<d.length->j∈n k->j<d.length)(hb:∀k,k<d.length->(n k).length<=3000):Calls P 68 #[.pointer (S ⟨F,0,N⟩),I J f,.slice (S ⟨lb,0,N⟩) ps.length ps.length] w λe w'=>e=.returned (.bool (Wm M d.length f f))/\Below w.heap.size w w':=by
 obtain⟨E,rc,rfl,aQ,av⟩:=h.ruAt (by omega);have ap:=h.lt;have ag:=za hL;have q:=z8 h.blk;have aP:=zbN d.length (by omega) w;obtain⟨d0,d1⟩:=h.ruCells f X;have aR:(f:Int)<d.length:=by omega
 have a0:=zc w (zH (List.replicate d.length false));have A:=ah f X _ (h.below a0) (by rw[a0.block _ ag];exact hL);have am:(w.alloc (zH (List.replicate d.length false))).heap[w.heap.size]?=S (zH (List.replicate d.length false)):=zk _ _;have al:=z6 ah;have a7:=z6 hM;have HN:=z6 hn;have a5:=z6 hb;have H:=z6 h;have HL:=z6 hL;have ay:=z6 a0;have aB:=z6 am;clear ah hM hn hb h hL d0 a0 am;go_enter func68,ntmps68;go_wp2_with fail;refine A.mono ?_;rintro _ w2⟨v2,rfl,aq,a1⟩;have aJ:=a1.size;simp at aJ;have az:Hid (U3 w M d.length f (n f) (List.replicate d.length false) v2 w2):=by refine⟨ay.out.trans (a1.mono (by simp)),by rw[a1.block _ (by simp)];exact aB.out,Q1.ofInts ?_,JH.start (λk=>a7.out f k X) (λk hk=>HN.out f k X hk)⟩;have:=aq;simpa using this
 have aw:QO (List.replicate d.length false)=d.length:=by simp[QO]
 have aA:=z6 aw;have D:=a5.out f X;clear A aq a1 aw;go_wp2_with fail;go_loopg[8,9] (3001 *(d.length+1)) (λm vt vk wr=>∃(a4:List Nat) (i:List Bool),a4.length+3001 *QO i<=m/\m<=70000/\Hid (U3 w M d.length f a4 i vt wr));case atStart=>exact⟨n f,List.replicate d.length false,by rw[aA.out];omega,by omega,az⟩
 case round=>
  obtain⟨a4,i,ar,au,c⟩:=hrel;have u:=z6 (And.intro ar au);clear ar au;cases a4 with
  |nil=>have hd:=c.out.inv.done;obtain⟨ao,b,a3,R,hv,_⟩:=c.out.tv;subst hv;have HD:=z6 hd;clear hd;go_wp2_with fail;go_ret;exact⟨congrArg (λb=>Ending.returned (Value.bool b)) HD.out.symm,c.out.below⟩
  |cons k t=>
   obtain⟨b,a3,R,hv,aL,aM,aO,af,aC,aj⟩:=c.out.tv.tail;subst hv;obtain⟨a2,r⟩:=c.out.inv.reach k (by simp);have an:(R:Int)+1<=9223372036854775807:=by unfold maxLen at af;omega
   have ax:=q;rcases Nat.eq_zero_or_pos R with h0|h0
   ·subst h0;have aH:t=[]:=List.length_eq_zero_iff.1 (by omega);subst aH;have L:Hid (Q1 wr (w.heap.size+1) (.slice (S ⟨b,a3,N⟩) 0 0) []):=Q1.nil0 _;clear aC;have aa:=z6 a2;clear aj af a2 an D;have aI:=za c.out.row;have G:=Y4 c.out.row k (by rw[c.out.inv.len];exact r);have ai:=zi c.out.row k;have aD:(k:Int)<d.length:=by omega
    by_cases W:k=f;·subst W;clear G ai;go_wp2_with fail;go_ret;exact⟨congrArg (λb=>Ending.returned (Value.bool b)) aa.out.symm,c.out.below⟩
    ·have aE:¬(k:Int)=f:=by omega
     cases z:i.getD k false with
     |true=>
      rw[z]at G;have ab:=z6 (c.out.inv.skip z);go_wp2_with fail;go_roundg (0+3001 *QO i);case measure=>have:=u.out;simp at this;omega
      case rel=>exact⟨[],i,by simp,by have:=u.out;simp at this;omega,c.out.below,c.out.row,L.out,ab.out⟩
     |false=>
      rw[z]at G;have Z:=qk i k (by rw[c.out.inv.len];exact r) z;have D:=a5.out k r;have ad:=z6 (c.out.inv.step W (λj=>a7.out k j r) (λj y=>HN.out k j r y));have x:Below w.heap.size w (wr.setCell ⟨w.heap.size,k,N⟩ (.bool true)):=c.out.below.setCell (p:=⟨w.heap.size,k,N⟩) (Nat.le_refl _) _;have U:=qJ c.out.row k;have A:=al.out k r _ (H.out.below x) (by rw[x.block _ ag];exact HL.out);have qg:=z8 (((c.out.below.block F ap).trans H.out.blk));have dk:wr.cell? ⟨E,k *2+1,N⟩=S (I J d[k].2):=by rw[World.cell?_of_block (a:=⟨E,_,N⟩) (c.out.below.block E av)];exact(H.out.ruCells k r).2
      have aF:¬F=w.heap.size:=by omega
      have aG:¬E=w.heap.size:=by omega
      have s:=z6 x;have a9:=z6 U;have K:=z6 D;have O:=z6 Z;have ae:Hid (Q1 (wr.setCell ⟨w.heap.size,k,N⟩ (.bool true)) (w.heap.size+1) (.slice (S ⟨b,a3,N⟩) 0 0) []):=L.out.other (by simp) (λj _ y=>Below.heap_setCell _ _ _ _ (by show j≠w.heap.size;omega));have a6:Hid (([]:List Nat).length+(n k).length<=200000):=by show _<=_;simp;omega
      clear x U D Z q ax;go_wp2_with(first|(at_builtin;refine zdm rfl _ _ rfl (w.heap.size+1) _ _ _ [] (n k) rfl (ae.out.kept g) rfl V a6.out (by have:=g.size;simp at this;omega) ?_)|(go_at_call 104;refine A.mono ?_;rintro _ w3⟨v3,rfl,V,g⟩))
      intro v4 w4 Y o;have ak:=g.size;simp at ak;have aK:=o.size;have a8:Hid (U3 w M d.length f ([]++n k) (i.set k true) v4 w4):=by
       refine⟨⟨o.os.trans (g.os.trans s.out.os),o.tape.trans (g.tape.trans s.out.tape),o.output.trans (g.output.trans s.out.output),by have:=s.out.size;simp at this;omega,λj y=> ?_⟩,?_,Y,ad.out⟩;·rw[o.block j (by omega) (by omega),g.block j (by simp;omega)];exact s.out.block j y
       ·rw[o.block _ (by omega) (by omega),g.block _ (by simp;omega)];exact a9.out
      clear A V g Y o;go_wp2_with fail;go_roundg (([]++n k).length+3001 *QO (i.set k true));case measure=>have v:=u.out;have h2:=O.out;have h3:=K.out;simp at v|-;omega
      case rel=>exact⟨[]++n k,i.set k true,Nat.le_refl _,by have v:=u.out;have h2:=O.out;have h3:=K.out;simp at v|-;omega,a8⟩
   ·have aN:¬R=0:=by omega
    have L:=z6 aj;have aa:=z6 a2;clear aj af a2 an D;have aI:=za c.out.row;have G:=Y4 c.out.row k (by rw[c.out.inv.len];exact r);have ai:=zi c.out.row k;have aD:(k:Int)<d.length:=by omega
    by_cases W:k=f;·subst W;clear G ai;go_wp2_with fail;go_ret;exact⟨congrArg (λb=>Ending.returned (Value.bool b)) aa.out.symm,c.out.below⟩
    ·have aE:¬(k:Int)=f:=by omega
     cases z:i.getD k false with
     |true=>
      rw[z]at G;have ab:=z6 (c.out.inv.skip z);go_wp2_with fail;go_roundg (t.length+3001 *QO i);case measure=>have:=u.out;simp at this;omega
      case rel=>exact⟨t,i,Nat.le_refl _,by have:=u.out;simp at this;omega,c.out.below,c.out.row,L.out,ab.out⟩
     |false=>
      rw[z]at G;have Z:=qk i k (by rw[c.out.inv.len];exact r) z;have D:=a5.out k r;have ad:=z6 (c.out.inv.step W (λj=>a7.out k j r) (λj y=>HN.out k j r y));have x:Below w.heap.size w (wr.setCell ⟨w.heap.size,k,N⟩ (.bool true)):=c.out.below.setCell (p:=⟨w.heap.size,k,N⟩) (Nat.le_refl _) _;have U:=qJ c.out.row k;have A:=al.out k r _ (H.out.below x) (by rw[x.block _ ag];exact HL.out);have qg:=z8 (((c.out.below.block F ap).trans H.out.blk));have dk:wr.cell? ⟨E,k *2+1,N⟩=S (I J d[k].2):=by rw[World.cell?_of_block (a:=⟨E,_,N⟩) (c.out.below.block E av)];exact(H.out.ruCells k r).2
      have aF:¬F=w.heap.size:=by omega
      have aG:¬E=w.heap.size:=by omega
      have s:=z6 x;have a9:=z6 U;have K:=z6 D;have O:=z6 Z;have ae:Hid (Q1 (wr.setCell ⟨w.heap.size,k,N⟩ (.bool true)) (w.heap.size+1) (.slice (S ⟨b,a3+1,N⟩) t.length R) t):=L.out.other (by simp) (λj _ y=>Below.heap_setCell _ _ _ _ (by show j≠w.heap.size;omega));have a6:Hid (t.length+(n k).length<=200000):=by have v:=u.out;simp at v;show _<=_;omega
      clear x U D Z q ax;go_wp2_with(first|(at_builtin;refine zdm rfl _ _ rfl (w.heap.size+1) _ _ _ t (n k) rfl (ae.out.kept g) rfl V a6.out (by have:=g.size;simp at this;omega) ?_)|(go_at_call 104;refine A.mono ?_;rintro _ w3⟨v3,rfl,V,g⟩))
      intro v4 w4 Y o;have ak:=g.size;simp at ak;have aK:=o.size;have a8:Hid (U3 w M d.length f (t++n k) (i.set k true) v4 w4):=by
       refine⟨⟨o.os.trans (g.os.trans s.out.os),o.tape.trans (g.tape.trans s.out.tape),o.output.trans (g.output.trans s.out.output),by have:=s.out.size;simp at this;omega,λj y=> ?_⟩,?_,Y,ad.out⟩;·rw[o.block j (by omega) (by omega),g.block j (by simp;omega)];exact s.out.block j y
       ·rw[o.block _ (by omega) (by omega),g.block _ (by simp;omega)];exact a9.out
      clear A V g Y o;go_wp2_with fail;go_roundg ((t++n k).length+3001 *QO (i.set k true));case measure=>have v:=u.out;have h2:=O.out;have h3:=K.out;simp at v|-;omega
      case rel=>exact⟨t++n k,i.set k true,Nat.le_refl _,by have v:=u.out;have h2:=O.out;have h3:=K.out;simp at v|-;omega,a8⟩
theorem ziZ(a b:z7):(ByteArray.mk a.toArray=ByteArray.mk b.toArray)↔a=b:=by
 constructor;·intro h;have:=congrArg (λx=>x.data.toList) h;simpa using this
 ·intro h;rw[h]
abbrev Jj(a:List (z7×Nat)):List z7:=a.map (·.1)
structure zaP(w:World)(B gb xg n xc:Nat)(vr:Value)(names:List z7)(ps:List (RE×Value×Value))(rs:List (z7×Nat))(i:Nat)(qs:List (RE×Value×Value))(wr:World):Prop where
 mem:GM wr B gb (.slice (some ⟨xg,0,none⟩) n xc) vr qs rs
 at_:Ku names ps qs i
 below:Below B w wr
theorem zhY(w:World)(B l:Nat)(vx vr:Value)(d:List (RE×Value×Value))(a:List (z7×Nat))(h:GM w B l vx vr d a)(h0:0<d.length)(h1:0<a.length)(hl:a.length<=20)(aj:d.length<=100000):Calls P 65 #[.pointer (S ⟨l,0,N⟩)] w λe w'=>e=.returned (.tuple #[])/\GM w' B l vx vr (d.map (ZY (a.map (·.1)))) a/\Below B w w':=by
 obtain⟨o,L,rfl,G,ao,ah⟩:=h.exAt h0;obtain⟨K,H,rfl,al,am⟩:=h.ruAt h1;have a2:Hid (zaP w B l o d.length L (.slice (S ⟨K,0,N⟩) a.length H) (a.map (·.1)) d a 0 d w):=⟨h,⟨rfl,λj hj=>by omega,λ_ _=>rfl⟩,Below.refl _ _⟩;clear h;go_enter func65,ntmps65;go_wp2_with fail;go_loopg[2] d.length (λm v wr=>∃(i:Nat) (c:List (RE×Value×Value)),m=d.length-i/\v=I J i/\i<=d.length/\Hid (zaP w B l o d.length L (.slice (S ⟨K,0,N⟩) a.length H) (a.map (·.1)) d a i c wr));case atStart=>exact⟨0,d,by omega,rfl,by omega,a2⟩
 case round=>
  obtain⟨i,c,rfl,rfl,hi,g⟩:=hrel;have q:=z8 g.out.mem.blk;have ak:=g.out.at_.len;by_cases af:i<d.length
  ·have a5:(i:Int)<d.length:=by omega
   have z:i<c.length:=by omega
   have y:=g.out.mem.exCells.2 i z;have X:=g.out.mem.exCells.1;obtain⟨A,u,D,V,x⟩:=y;have aa:l≠o:=by intro e;subst e;obtain⟨cs,W⟩:=Qw g.out.mem.ex (b:=l) rfl;rw[g.out.mem.blk]at W;simp at W
   have E:rfE (Jj a) c[i].1 a.length= -1:=by unfold rfE;split;exact zhS _ _ _ (by simp[Jj]);rfl
   have O:=z6 (g.out.mem.setRule z (rfE (Jj a) c[i].1 a.length));have M:=z6 (g.out.below.setCell (p:=⟨o,i *5+3,N⟩) G (I J (rfE (Jj a) c[i].1 a.length)));have a1:=z6 E;rw[E]at O M;have a9:=X (i *5+3);have a0:=z6 g.out.at_;clear E X A u D x;go_wp2_with fail;go_loopg[3] a.length (λm v wr=>∃k:Nat,m=k/\v=I J ((k:Int)-1)/\k<=a.length/\Hid (GM wr B l (.slice (S ⟨o,0,N⟩) d.length L) (.slice (S ⟨K,0,N⟩) a.length H) (c.set i ({c[i].1 with rule:=rfE (Jj a) c[i].1 k},c[i].2)) a/\Below B w wr));case atStart=>exact⟨a.length,rfl,by go_num,Nat.le_refl _,by rw[a1.out];exact⟨O.out,M.out⟩⟩
   case round=>
    obtain⟨k,ag,rfl,hk,f⟩:=hrel;have Y:i<(c.set i ({c[i].1 with rule:=rfE (Jj a) c[i].1 k},c[i].2)).length:=by simpa using z
    have y:=f.out.1.exCells.2 i Y;simp only[List.getElem_set_self]at y;obtain⟨A,u,D,V,x⟩:=y;have q2:=z8 f.out.1.blk;have a3:=f.out.1.exCells.1 (i *5+3);by_cases a6:k=0
    ·subst a6;have HN:=z6 (a0.out.next z);clear u D V x a3;go_wp2_with fail;go_roundg (d.length-(i+1));case measure=>omega
     case rel=>exact⟨i+1,_,rfl,by go_num,by omega,⟨f.out.1,HN.out,f.out.2⟩⟩
    ·obtain⟨t,rfl⟩:∃t,k=t+1:=⟨k-1,by omega⟩;have Z:t<a.length:=by omega
     have hr:=f.out.1.ruCells t Z;obtain⟨d0,d1⟩:=hr;have an:(t:Int)<a.length:=by omega
     have F:=zhT (Jj a) c[i].1.text t (by simpa[Jj]using Z);simp only[Jj,List.getElem_map]at F;have U:=z6 F;have e1:((t+1:Nat):Int)-1=t:=by omega
     rw[e1];clear F u x d1;by_cases n:c[i].1.kind=4
     ·rw[n]at A;by_cases r:a[t].1=c[i].1.text
      ·have a7:(ByteArray.mk a[t].1.toArray=ByteArray.mk c[i].1.text.toArray):=by rw[r]
       have R:=z6 (f.out.1.setRule Y t);have a8:=z6 (f.out.2.setCell (p:=⟨o,i *5+3,N⟩) G (I J t));simp only[List.getElem_set_self,List.set_set]at R;have s:rfE (Jj a) c[i].1 t=t:=by unfold rfE;rw[if_pos n,U.out,if_pos r]
       go_wp2_with fail;go_quiet(fail);go_wp2_with fail;go_roundg t;case measure=>omega
       case rel=>exact⟨t,rfl,by go_num,by omega,by rw[s];exact⟨R.out.kept (λ_ _=>rfl),(below_drewN f.out.2 _).setCell G _⟩⟩
      ·have ai:(a[t].1==c[i].1.text)=false:=by simpa using r
       have a7:decide (ByteArray.mk a[t].1.toArray=ByteArray.mk c[i].1.text.toArray)=false:=by rw[decide_eq_false_iff_not,ziZ];exact r
       have s:rfE (Jj a) c[i].1 (t+1)=rfE (Jj a) c[i].1 t:=by unfold rfE;rw[if_pos n,if_pos n,U.out,if_neg r]
       go_wp2_with fail;go_quiet(fail);go_wp2_with fail;go_roundg t;case measure=>omega
       case rel=>exact⟨t,rfl,by go_num,by omega,by rw[<-s];exact⟨f.out.1.kept (λ_ _=>rfl),below_drewN f.out.2 _⟩⟩
     ·have ab:decide ((c[i].1.kind:Int)=4)=false:=by simp;omega
      have ad:((c[i].1.kind:Int)==4)=false:=by simp;omega
      have ae:(c[i].1.kind==4)=false:=by simpa using n
      have s:rfE (Jj a) c[i].1 (t+1)=rfE (Jj a) c[i].1 t:=by unfold rfE;rw[if_neg n,if_neg n]
      go_wp2_with fail;go_quiet(fail);go_wp2_with fail;go_roundg t;case measure=>omega
      case rel=>exact⟨t,rfl,by go_num,by omega,by rw[<-s];exact⟨f.out.1.kept (λ_ _=>rfl),below_drewN f.out.2 _⟩⟩
  ·have a4:i=d.length:=by omega
   have a5:¬(i:Int)<d.length:=by omega
   go_wp2_with fail;go_end0;refine⟨rfl,?_,g.out.below⟩;have:=g.out.at_;rw[a4]at this;rw[<-this.done];exact g.out.mem
end
section
open Go.RowKit
def EvW(w b:World):Prop:=∀a:Addr,(w.cell? a).isSome=true->(b.cell? a).isSome=true/\b.frozen? a=w.frozen? a
theorem EvW.trans{a b c:World}(h:EvW a b)(k:EvW b c):EvW a c:=λx d=>⟨(k x (h x d).1).1,((k x (h x d).1).2).trans (h x d).2⟩
theorem EvW.alloc(w:World)(o:Obj):EvW w (w.alloc o):=λa b=>by obtain⟨u,d⟩:=Option.isSome_iff_exists.1 b;have c:=World.block_lt_of_cell? w a d;exact⟨by rw[World.cell?_alloc_lt _ _ _ c];exact b,World.frozen?_alloc_old _ _ _ (by omega)⟩
theorem EvW.setCell(w:World)(p:Addr)(u:Value):EvW w (w.setCell p u):=by
 intro a b;refine⟨?_,World.frozen?_setCell _ _ _ _⟩;by_cases c:p=a;·subst c;rw[World.cell?_setCell_same' _ _ _ b];rfl
 ·rw[World.cell?_setCell_other _ _ _ _ c];exact b
theorem EvW.setCells(b:Nat)(c:List Value)(o:Nat)(w:World)(l:∀j,j<c.length->(w.cell? ⟨b,o+j,N⟩).isSome=true):EvW w (w.setCells b o c):=by
 intro a k;refine⟨?_,World.frozen?_setCells b c o w a⟩;by_cases h:a.block=b/\a.spot=N/\o<=a.off/\a.off<o+c.length
 ·obtain⟨m,n,d,f⟩:=h;obtain⟨j,p⟩:∃j,a.off=o+j:=⟨a.off-o,by omega⟩;have e:a=⟨b,o+j,N⟩:=by cases a;simp_all
  rw[e,World.cell?_setCells_in b c o w l j (by omega)];rfl
 ·rw[World.cell?_setCells_out b c o w a (λg i=>by
   by_cases d:a.off<o;·exact .inl d
   ·exact .inr (by
     by_cases f:a.off<o+c.length;·exact absurd ⟨g,i,by omega,f⟩ h
     ·omega))]
  exact k
section
variable {P : Nat → Prop} {sz : Nat}
def J4(P:Nat->Prop)(sz:Nat)(w:World)(v:Value)(n:Nat):Prop:=∃a b c,v=.slice a n c/\(0<n->a=S ⟨b,0,N⟩/\P b/\b<w.heap.size)/\n<=maxLen/\∀j,j<n *sz->(w.cell? ⟨b,j,N⟩).isSome=true/\w.frozen? ⟨b,j,N⟩=false
theorem J4.ev{w d:World}{v:Value}{n:Nat}(h:J4 P sz w v n)(p:EvW w d)(t:w.heap.size<=d.heap.size):J4 P sz d v n:=by
 obtain⟨e,b,i,k,l,m,o⟩:=h;refine⟨e,b,i,k,λr=> ?_,m,λj q=> ?_⟩;·obtain⟨a,c,s⟩:=l r;exact⟨a,c,by omega⟩
 ·obtain⟨a,c⟩:=o j q;obtain⟨f,g⟩:=p _ a;exact⟨f,g.trans c⟩
structure JK(P:Nat->Prop)(sz:Nat)(w:World)(ao:Option Addr)(b n cap:Nat)(olds:List Value):Prop where
 came:Came w sz ao b 0 n cap olds
 pb:0<cap->P b
 max:cap<=maxLen
 fz:∀j,j<n *sz->w.frozen? ⟨b,j,none⟩=false
theorem JK.room{w:World}{a:Option Addr}{b n c:Nat}{d:List Value}(h:JK P sz w a b n c d):J4 P sz w (.slice a n c) n:=by have g:=h.came.le;refine⟨a,b,c,rfl,λi=>⟨h.came.addr (by omega),h.pb (by omega),h.came.lt (by omega)⟩,by have:=h.max;omega,λj e=>⟨?_,h.fz j e⟩⟩;have k:=h.came.oldsLen;obtain⟨u,f⟩:∃u,d[j]?=S u:=⟨_,List.getElem?_eq_getElem (by omega)⟩;have:=h.came.olds j u f;rw[Nat.zero_add]at this;rw[this];rfl
structure GrW(w w':World)(row:Nat->Prop):Prop where
 os:w'.os=w.os
 tape:w'.tape=w.tape
 output:w'.output=w.output
 size:w.heap.size<=w'.heap.size
 block:∀k,k<w.heap.size->¬row k->w'.heap[k]?=w.heap[k]?
theorem JK.ev{w f:World}{i:Option Addr}{b n k:Nat}{e:List Value}(h:JK P sz w i b n k e)(m:EvW w f)(p:w.heap.size<=f.heap.size)(o:∀j u,e[j]?=S u->f.cell? ⟨b,j,N⟩=S u):JK P sz f i b n k e:=by
 have a:=h.came;refine⟨⟨a.le,a.addr,λh=>Nat.lt_of_lt_of_le (a.lt h) p,a.oldsLen,λj u g=>by rw[Nat.zero_add];exact o j u g,λj d=> ?_⟩,h.pb,h.max,λj d=> ?_⟩;·have:=a.spare j d;have c:=m _ this.1;exact⟨c.1,c.2.trans this.2⟩
 ·obtain⟨u,g⟩:∃u,e[j]?=S u:=⟨_,List.getElem?_eq_getElem (by rw[a.oldsLen];exact d)⟩;have l:=a.olds j u g;rw[Nat.zero_add]at l;have c:=m ⟨b,j,N⟩ (by rw[l];rfl);exact c.2.trans (h.fz j d)
theorem ziv{T l:TypeId}{z:Value}{d:TypeInfo}(g:prog.underlying l=S (.slice T))(V:prog.info? T=S d)(a4:d.zero=S z)(v:d.size=sz)(a5:d.bytes<=100){w:World}{q:Option Addr}{b n c:Nat}{o:List Value}(K:TypeId)(h:JK P sz w q b n c o)(E:Value)(k:Nat)(m:List Value)(B:Src prog sz l E k m w)(hk:0<k)(hb:n+k<=100000)(hP:∀x,w.heap.size<=x->P x):∃L M y,(Builtin.append_ #[l,l] K #[.slice q n c,E]).run prog w=.ok (.slice L (n+k) M) y/\J4 P sz y (.slice L (n+k) M) (n+k)/\EvW w y/\JK P sz y q b n c o/\GrW w y (λx=>x=b/\0<c):=by
 have f:=h.came;have a9:=f.le;have X:=B.newsLen;rw[<-v]at B;by_cases R:n+k<=c
 ·have s:0<c:=by omega
  have G:=f.addr s;subst G;have D:∀j,j<m.length->(w.cell? ⟨b,0+n *d.size+j,N⟩).isSome=true/\w.frozen? ⟨b,0+n *d.size+j,N⟩=false:=by intro j i;rw[v];exact f.spare j (by have:=Nat.mul_le_mul_right sz R;rw[Nat.add_mul]at this;rw[Nat.sub_mul];omega)
  have A:=run_append_room_src (P:=prog) w l l K T d g V b 0 n c E k m B R (λj i=>(D j i).1) (λj i=>(D j i).2);obtain⟨ht,H⟩:=zar b m (0+n *d.size) w;have p:=EvW.setCells b m (0+n *d.size) w (λj i=>(D j i).1);have a3:∀j u,o[j]?=S u->(w.setCells b (0+n *d.size) m).cell? ⟨b,j,N⟩=S u:=by
   intro j u g;have i:j<n *sz:=by have:=(List.getElem?_eq_some_iff.1 g).1;rw[f.oldsLen]at this;exact this
   rw[World.cell?_setCells_out b _ _ _ _ (λ_ _=>Or.inl (by show j<_;rw[v];omega))];have:=f.olds j u g;rw[Nat.zero_add]at this;exact this
  refine⟨_,_,_,A,⟨_,b,c,rfl,λ_=>⟨rfl,h.pb s,by rw[H];exact f.lt s⟩,by unfold maxLen;omega,λj i=> ?_⟩,p,h.ev p (by rw[H];exact Nat.le_refl _) a3,⟨World.os_setCells _ _ _ _,ht,World.output_setCells _ _ _ _,by rw[H];exact Nat.le_refl _,λx J hr=>World.heap_setCells_other _ _ _ _ J (λe=>hr ⟨e,s⟩)⟩⟩;by_cases W:j<n *sz;·obtain⟨u,g⟩:∃u,o[j]?=S u:=⟨_,List.getElem?_eq_getElem (by rw[f.oldsLen];exact W)⟩;have r:=f.olds j u g;rw[Nat.zero_add]at r;have t:=p ⟨b,j,N⟩ (by rw[r];rfl);exact⟨t.1,t.2.trans (h.fz j W)⟩
  ·have:=D (j-n *sz) (by rw[X];rw[Nat.add_mul]at i;omega);rw[v,show 0+n *sz+(j-n *sz)=j from by omega]at this;have t:=p _ this.1;exact⟨t.1,t.2.trans this.2⟩
 ·have U:c<n+k:=by omega
  have Y:=f.oldsLen;have a2:(Builtin.firstCells d.size n (.slice q n c)).run prog w.drew=.ok o.toArray w.drew:=by
   rcases Nat.eq_zero_or_pos c with h0|s
   ·have Z:n=0:=by omega
    subst Z;have F:o=[]:=List.length_eq_zero_iff.1 (by omega);subst F;cases q with
    |none=>exact run_firstCells_none w.drew d.size 0 0 c|some a=>exact run_firstCells_some w.drew d.size 0 a 0 c [] (by simp) (by simp)
   ·have G:=f.addr s;subst G;refine run_firstCells_some w.drew d.size n ⟨b,0,N⟩ _ _ _ (by rw[v];exact Y) ?_;intro j u g;rw[Addr.add_lit];exact f.olds j u g
  have a0:(n+k) *d.bytes<=140737488355328:=Nat.le_trans (Nat.mul_le_mul hb a5) (by decide);have A:=run_append_grow_src (P:=prog) w l l K T d _ g V a4 q n c o a2 E k m B U (by omega) (growslice_fits U a0);have a8:=grownCap_ge w (n+k) c T;have a7:=grownCap_le_maxLen w (n+k) c T (by unfold maxLen;omega);have a1:EvW w w.drew:=λa ha=>⟨ha,rfl⟩;obtain⟨C,O⟩:∃C,C=((o++m).toArray++Builtin.zeroCells z.cells (grownCap w (n+k) c T-(n+k))):=⟨_,rfl⟩;have a6:(n+k) *sz<=C.size:=by rw[O,Array.size_append,List.size_toArray,List.length_append,Y,X,Nat.add_mul];omega
  rw[<-O]at A;have p:EvW w (w.drew.alloc (.cells C T)):=a1.trans (EvW.alloc _ _);refine⟨_,_,_,A,⟨_,w.heap.size,_,rfl,λ_=>⟨rfl,hP _ (Nat.le_refl _),by simp⟩,by unfold maxLen;omega,λj i=>⟨?_,World.frozen?_alloc_new w.drew _ _ _⟩⟩,p,h.ev p (by simp) (λj u g=> ?_),⟨rfl,rfl,rfl,by simp,λx J _=>Below.heap_alloc w.drew _ x J⟩⟩;·have F:(w.drew.alloc (.cells C T)).cell? ⟨w.heap.size,j,N⟩=_:=World.cell?_alloc_new w.drew _ _ j;rw[F,Array.getElem?_eq_getElem (by omega)];rfl
  ·have r:=f.olds j u g;rw[Nat.zero_add]at r;rw[World.cell?_alloc_lt _ _ _ (World.block_lt_of_cell? w.drew _ r)];exact r
theorem zg4{w:World}{B n:Nat}{T:TypeId}{v:Value}{f:List Value}(h:w.ownsRow B T sz v n f):∃i b c,v=.slice i n c/\JK (λx=>v.ownBlock=S x) sz w i b n c f:=by
 have p:=h;rcases p.2 with⟨rfl,q⟩|⟨k,c,m,rfl,y,d,l,r,s,t⟩;·subst q;have o:f=[]:=List.length_eq_zero_iff.1 (by have:=h.1;omega);subst o;exact⟨N,0,0,rfl,⟨⟨by omega,λh=>absurd h (by omega),λh=>absurd h (by omega),by simp,λj u e=>by simp at e,λj a=>by simp at a⟩,λh=>absurd h (by omega),by omega,λj a=>by simp at a⟩⟩
 ·refine⟨_,k,c,rfl,⟨⟨l,λ_=>rfl,λ_=>za d,h.1,?_,?_⟩,λ_=>rfl,r,λj a=>zi d _⟩⟩
  ·intro j u e;have a:j<n *sz:=by have:=(List.getElem?_eq_some_iff.1 e).1;rw[h.1]at this;exact this
   have:=h.cellAt (g:=k) j a;rw[Nat.zero_add,this];exact e
  ·intro j a;refine⟨?_,zi d _⟩;rw[z8 d];have:0+n *sz+j<m.size:=by rw[s];rw[Nat.sub_mul]at a;have:=Nat.mul_le_mul_right sz l;omega
   rw[Array.getElem?_eq_getElem this];rfl
end
end
end Go.Proofs.YtiganlkabilblaaGreatDoor
