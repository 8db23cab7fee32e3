import Derived.Test.YtiganlkabilblaaGreatDoorV33
import Derived.Test.YtiganlkabilblaaGreatDoorV31
import Derived.Test.YtiganlkabilblaaGreatDoorV38
import Derived.BigQuiet
import Derived.Test.YtiganlkabilblaaGreatDoorV30
import Derived.Laws.OwnMore
set_option linter.all false
set_option maxHeartbeats 64000000
set_option maxRecDepth 100000
namespace Go.Proofs.YtiganlkabilblaaGreatDoor
open Tryz
open Tryz renaming prog->P
open Option renaming some->S,none->N
open Value renaming int->I
open IntKind renaming i64->J
section
open Go.RowKit
attribute [local go_sem ↓] Go.wp_at_zero Go.wp_at_succ
section
variable {w0 : World} {B gb tb eb ec H : Nat} {vx vr : Value} {ps : List (RE × Value × Value)} {rs : List (z7 × Nat)} {s : ByteArray} {rbs : List Nat}
structure KpN(rbs:List Nat)(ob:Option Nat)(w w':World):Prop where
 os:w'.os=w.os
 tape:w'.tape=w.tape
 output:w'.output=w.output
 size:w.heap.size<=w'.heap.size
 block:∀b,b<w.heap.size->b∉rbs->some b≠ob->w'.heap[b]?=w.heap[b]?
theorem KpN.of_kpM{ob:Option Nat}{w a:World}(h:KpM rbs w.heap.size w a):KpN rbs ob w a:=⟨h.os,h.tape,h.output,h.size,λb c d _=>h.block b c d⟩
theorem KpN.trans{c d:Option Nat}{w k l:World}(h:KpN rbs c w k)(a:KpN rbs d k l)(m:d=c\/∃g,d=S g/\w.heap.size<=g):KpN rbs c w l:=by
 refine⟨a.os.trans h.os,a.tape.trans h.tape,a.output.trans h.output,Nat.le_trans h.size a.size,λb f i j=> ?_⟩;rw[a.block b (Nat.lt_of_lt_of_le f h.size) i,h.block b f i j];rcases m with rfl|⟨g,rfl,n⟩;·exact j
 ·intro e;have:=Option.some.inj e;omega
theorem KpN.grown{a:Option Nat}{X c:World}{O:Obj}(h:(X.alloc O).grownBy c a):KpN rbs a X c:=by have f:=h.size;simp at f;exact⟨h.os,h.tape,h.output,by omega,λb d _ e=>by rw[h.block b (by simp;omega) e,zm _ _ d]⟩
structure NdS(w0:World)(tb eb ec H:Nat)(vx vr:Value)(ps:List (RE×Value×Value))(rs:List (z7×Nat))(s:ByteArray)(rbs:List Nat)(a:Option Addr)(c:Nat)(xs:List Nod)(w:World):Prop where
 st:Stt w0 tb eb ec vx vr ps rs s rbs w
 row:w.ownsRow H 60 4 (.slice a xs.length c) xs.length (xs.flatMap ZZ)
 tlt:tb<H
 elt:eb<H
 rlt:∀b∈rbs,b<H
 wle:w0.heap.size<=H
 hle:H<=w.heap.size
theorem Stt.low{w f:World}(h:Stt w0 tb eb ec vx vr ps rs s rbs w)(n:tb<H)(j:eb<H)(m:∀b∈rbs,b<H)(o:w0.heap.size<=H)(g:w.heap.size<=f.heap.size)(d:∀b,b<H->f.heap[b]?=w.heap[b]?):Stt w0 tb eb ec vx vr ps rs s rbs f:=by
 obtain⟨M,c,k⟩:=h;refine⟨M,⟨Nat.le_trans c.size g,λb l=>by rw[d b (by omega)];exact c.old b l,by rw[d _ n];exact c.blk,Nat.lt_of_lt_of_le c.elt g,λi e=> ?_,λi e=> ?_,c.nodup,c.rge,c.tn,c.en⟩,k⟩;·rw[World.cell?_of_block (a:=⟨eb,i,N⟩) (d eb j)];exact c.ends i e
 ·rw[d _ (m _ (List.getElem_mem e))];exact c.row i e
theorem NdS.kpM{a:Option Addr}{c:Nat}{f:List Nod}{w b:World}(h:NdS w0 tb eb ec H vx vr ps rs s rbs a c f w)(i:Stt w0 tb eb ec vx vr ps rs s rbs b)(e:KpM rbs w.heap.size w b):NdS w0 tb eb ec H vx vr ps rs s rbs a c f b:=⟨i,Z6 h.row (λg d=>e.block g (h.row.lt g d).2 (λj=>by have:=h.rlt g j;have:=(h.row.lt g d).1;omega)),h.tlt,h.elt,h.rlt,h.wle,Nat.le_trans h.hle e.size⟩
theorem NdS.below{a:Option Addr}{c:Nat}{d:List Nod}{w w':World}(h:NdS w0 tb eb ec H vx vr ps rs s rbs a c d w)(b:Below w.heap.size w w'):NdS w0 tb eb ec H vx vr ps rs s rbs a c d w':=h.kpM (h.st.below b) (KpM.of_below b)
theorem NdS.push{a:Option Addr}{c:Nat}{d:List Nod}{X f:World}{g i:Nat}{z:Nod}{O:Obj}(h:NdS w0 tb eb ec H vx vr ps rs s rbs a c d X)(k:f.ownsRow H 60 4 (.slice (S ⟨g,0,N⟩) (d.length+1) i) (d.length+1) (d.flatMap ZZ++ZZ z))(j:(X.alloc O).grownBy f (obS a d.length c)):NdS w0 tb eb ec H vx vr ps rs s rbs (S ⟨g,0,N⟩) i (d++[z]) f:=by have l:=j.size;simp at l;have n:=h.hle;refine⟨h.st.low h.tlt h.elt h.rlt h.wle (by omega) (λb m=> ?_),by rw[zbB,List.length_append];exact k,h.tlt,h.elt,h.rlt,h.wle,by omega⟩;rw[j.block b (by simp;omega) (λe=>by have:=(h.row.lt b e.symm).1;omega),zm _ _ (by omega)]
def Qq(w0:World)(tb eb ec H:Nat)(vx vr:Value)(ps:List (RE×Value×Value))(rs:List (z7×Nat))(s:ByteArray)(rbs:List Nat)(a:Option Addr)(c:Nat)(b l:List Nod)(w:World)(e:Ending)(h:World):Prop:=∃d f,e=.returned (.slice d (b++l).length f)/\NdS w0 tb eb ec H vx vr ps rs s rbs d f (b++l) h/\KpN rbs (obS a b.length c) w h/\(obS d (b++l).length f=obS a b.length c\/∃g,obS d (b++l).length f=S g/\w.heap.size<=g)
abbrev ndS(ps:List (RE×Value×Value))(rs:List (z7×Nat))(s:ByteArray):Nat->Nat->Nat->Nat->Option (List Nod):=ndR (zK ps) (zj rs) (Zp rs) s.data.toList
def K7(w0:World)(tb eb ec H:Nat)(vx vr:Value)(ps:List (RE×Value×Value))(rs:List (z7×Nat))(s:ByteArray)(rbs:List Nat)(f:Nat):Prop:=∀(w:World) (i k d:Nat) (a:Option Addr) (c:Nat) (b l:List Nod),NdS w0 tb eb ec H vx vr ps rs s rbs a c b w->k<=s.size->ndS ps rs s f i k d=S l->b.length+l.length<=100000->d+l.length<=100000->Calls P 76 #[.pointer (S ⟨tb,0,N⟩),I J i,I J k,I J d,.slice a b.length c] w (Qq w0 tb eb ec H vx vr ps rs s rbs a c b l w)
theorem Qq.go{a:Option Addr}{c:Nat}{b l l2:List Nod}{w o p:World}{a1:Option Addr}{c1:Nat}{e:Ending}(m:KpN rbs (obS a b.length c) w o)(n:obS a1 (b++l).length c1=obS a b.length c\/∃g,obS a1 (b++l).length c1=S g/\w.heap.size<=g)(h:Qq w0 tb eb ec H vx vr ps rs s rbs a1 c1 (b++l) l2 o e p):Qq w0 tb eb ec H vx vr ps rs s rbs a c b (l++l2) w e p:=by
 obtain⟨q,r,k,i,t,j⟩:=h;rw[List.append_assoc]at i j k;refine⟨q,r,k,i,m.trans t n,?_⟩;rcases j with e|⟨g,e,f⟩
 ·rcases n with d|⟨g,d,f⟩;·exact .inl (e.trans d)
  ·exact .inr ⟨g,e.trans d,f⟩
 ·exact .inr ⟨g,e,Nat.le_trans m.size f⟩
theorem Qq.form{a:Option Addr}{c:Nat}{i l:List Nod}{w g:World}{e:Ending}(h:Qq w0 tb eb ec H vx vr ps rs s rbs a c i l w e g):∃b f d,e=.returned (.slice b f d)/\Hid (Qq w0 tb eb ec H vx vr ps rs s rbs a c i l w (.returned (.slice b f d)) g):=by obtain⟨b,d,k,j⟩:=h;exact⟨b,_,d,k,z6 ⟨b,d,rfl,j⟩⟩
theorem zgQ(f:Env w0 B gb vx vr ps rs s rbs)(w:World)(i k d:Nat)(a:Option Addr)(c:Nat)(b:List Nod)(e:RE)(h:NdS w0 tb eb ec H vx vr ps rs s rbs a c b w)(j:(zK ps)[i]?=S e)(g:okE (zj rs) e=true)(p:e.kind<=3\/10<=e.kind)(v:b.length<=100000):Calls P 76 #[.pointer (S ⟨tb,0,N⟩),I J i,I J k,I J d,.slice a b.length c] w (Qq w0 tb eb ec H vx vr ps rs s rbs a c b [] w):=by
 obtain⟨m,l,U,V,pa,pc,E,rfl,v,x,y,z,A,D,L,u,o,F,_,_,r⟩:=h.st.exq f j g;obtain⟨R,M,t,q⟩:=h.st.cells;have K:=f.ple;have G:(i:Int)<ps.length:=by omega
 have q0:w.cell? ⟨tb,0,N⟩=S (.slice (S ⟨m,0,N⟩) ps.length l):=q 0;have X:((e.kind:Int)==4)=false:=by simp;omega
 have Y:((e.kind:Int)==5)=false:=by simp;omega
 have Z:((e.kind:Int)==6)=false:=by simp;omega
 have k7:((e.kind:Int)==7)=false:=by simp;omega
 have k8:((e.kind:Int)==8)=false:=by simp;omega
 have k9:((e.kind:Int)==9)=false:=by simp;omega
 have n:Hid (∀O,Qq w0 tb eb ec H (.slice (S ⟨m,0,N⟩) ps.length l) vr ps rs s rbs a c b [] w (.returned (.slice a b.length c)) (w.alloc O)):=z6 (λO=>⟨a,c,by simp,by rw[List.append_nil];exact h.below (zc _ _),KpN.of_kpM (KpM.of_below (zc _ _)),.inl (by simp)⟩);clear g o u h j f r q t p;generalize (e.kind:Int)=kd at *;generalize e.items.length=W at *;generalize e.parts.length=pl at *;generalize e.text=tx at *;go_enter func76,ntmps76;go_wp2_with fail;go_ret;exact n.out _
end
theorem zh5{rbs:List Nat}{w c:World}{a:Obj}{q:Nat}(d:∀b∈rbs,b<w.heap.size)(h:KpM rbs ((w.alloc a).drewN q).heap.size ((w.alloc a).drewN q) c):c.heap[w.heap.size]?=S a:=KpM.own (O:=a) d ⟨h.os,h.tape,h.output,h.size,h.block⟩
section
variable {w0 : World} {B gb tb eb ec H : Nat} {vx vr : Value} {ps : List (RE × Value × Value)} {rs : List (z7 × Nat)} {s : ByteArray} {rbs : List Nat}
theorem zgR(o:Env w0 B gb vx vr ps rs s rbs)(f:Nat)(hT:JM w0 tb eb ec vx vr ps rs s rbs f)(hN:K7 w0 tb eb ec H vx vr ps rs s rbs f)(w:World)(i k d:Nat)(m:Option Addr)(c:Nat)(b A:List Nod)(e:RE)(n:Nat)(h:NdS w0 tb eb ec H vx vr ps rs s rbs m c b w)(W:k<=s.size)(hx:(zK ps)[i]?=S e)(a8:okE (zj rs) e=true)(K:e.kind=4)(p:evS ps rs s f ((Zp rs).getD (idx0 (zj rs) e.text) 0) k=S (S n))(z:(if k<n then(ndS ps rs s f ((Zp rs).getD (idx0 (zj rs) e.text) 0) k (d+1)).map ((idx0 (zj rs) e.text,k,n,d):: ·)else S [])=S A)(az:b.length+A.length<=100000)(an:d+A.length<=100000)(hd:d<=100000):Calls P 76 #[.pointer (S ⟨tb,0,N⟩),I J i,I J k,I J d,.slice m b.length c] w (Qq w0 tb eb ec H vx vr ps rs s rbs m c b A w):=by
 obtain⟨xg,xc,ia,ic,pa,pc,hi,rfl,aQ,c0,c1,c2,c3,c4,aK,aw,ap,aF,_,_,y⟩:=h.st.exq o hx a8;obtain⟨aP,aO,a9,q⟩:=h.st.cells;obtain⟨i0,ao,aA,aB,aC⟩:=info_parts infoNode;have aJ:=o.ple;have aM:=o.rle;have aN:=o.sle;have aG:(i:Int)<ps.length:=by omega
 have F:=y K;have Z:=KU (names:=zj rs) K;rw[if_pos F]at Z;have ad:idx0 (zj rs) e.text=(zj rs).idxOf e.text:=by unfold idx0;rw[if_pos F]
 rw[ad]at p z;have a0:(zj rs).idxOf e.text<rs.length:=by have:=List.idxOf_lt_length_iff.2 (show e.text∈zj rs by simpa using F);simpa using this
 rw[Z]at c3;obtain⟨x,ae⟩:∃x,x=(zj rs).idxOf e.text:=⟨_,rfl⟩;rw[<-ae]at c3 p a0 z;have a4:(Zp rs).getD x 0=rs[x].2:=by rw[List.getD_eq_getElem?_getD,List.getElem?_map,List.getElem?_eq_getElem a0];rfl
 rw[a4]at p z;obtain⟨t,rc,ay,_,ax⟩:=o.gm.ruAt o.rpos;have a5:=o.gm;subst ay;have d1:=(a5.ruCells x a0).2;have aD:w.cell? ⟨t,x *2+1,N⟩=S (I J rs[x].2):=by rw[World.cell?_of_block (a:=⟨t,_,N⟩) (a9 t ax)];exact d1
 have aL:t<w.heap.size:=by omega
 have aR:(x:Int)<rs.length:=by omega
 have aS:¬(x:Int)<0:=by omega
 have aq:=JO _ _ _ _ p (show k<=s.data.toList.length from W);have aH:n<=s.size:=aq.2;have L:=z6 (λ(O:Obj) (q:Nat)=>hT ((w.alloc O).drewN q) rs[x].2 k (S n) (h.st.below (below_drewN (zc w O) q)) W p);have HF:=z6 h.st.fresh;have q0:w.cell? ⟨tb,0,N⟩=S (.slice (S ⟨xg,0,N⟩) ps.length xc):=q 0;have q1:w.cell? ⟨tb,1,N⟩=S (.slice (S ⟨t,0,N⟩) rs.length rc):=q 1;have aj:=z6 hN;have HH:=z6 h;have HL:=z6 z;have hw:=h.hle;generalize rs[x].2=R at *;rw[K]at c0;clear a8 ap aw h hx o y F Z ad ae a4 a5 d1 hT p q a9 K hN z;generalize e.items.length=il at *;generalize e.parts.length=pl at *;generalize e.text=tx at *;simp only[QI]at L;go_enter func76,ntmps76;go_wp2_with fail;go_quiet(fail);go_wp2_with fail;refine(L.out _ _).mono ?_;rintro _ v⟨rfl,ab,X⟩;have G:KpM rbs w.heap.size w v:=KpM.go (KpM.of_below (below_drewN (zc w _) _)) X;have aT:=G.size;have Y:=zh5 HF.out X;have o3:v.cell? ⟨w.heap.size,3,N⟩=S (I J x):=z8 Y 3;have lo:=za Y;have E:=z6 (HH.out.kpM ab G);have a1:=z6 G;clear ab X G Y L;by_cases y:k<n
 ·have aI:((n:Int)==(k:Int))=false:=by simp;omega
  have j:=HL.out;rw[if_pos y]at j;obtain⟨r,a6,ar⟩:∃r,ndS ps rs s f R k (d+1)=S r/\A=(x,k,n,d)::r:=by
   cases hg:ndS ps rs s f R k (d+1)with
   |none=>rw[hg]at j;cases j|some r=>rw[hg]at j;exact⟨r,rfl,(Option.some.inj j).symm⟩
  subst ar;simp only[List.length_cons]at az an;have ah:=z6 a6;have ak:=z6 E.out.row;have ai:Hid (b.length+1<=maxLen):=by show _<=_;unfold maxLen;omega
  have H1:Hid (∀u∈ZZ (x,k,n,d),u.oneCell'=true):=z6 (by intro u hu;simp[ZZ]at hu;rcases hu with rfl|rfl|rfl|rfl<;>rfl);have aE:=E.out.hle;clear j a6;go_wp2_with(first|(at_builtin;refine wpList_append_lies _ rfl _ _ 53 rfl H 60 i0 _ 4 32 underlying53 ao aA aB aC rfl (by decide) _ _ _ rfl (ak.out.alloc _) ⟨v.heap.size,0,N⟩ 1 1 (ZZ (x,k,n,d)) rfl rfl (World.news_of_block (zk v _)) H1.out (by decide) ai.out (by omega) (by simp;omega) (v.heap.size+1) (by simp) ?_));intro U a2 w6 aa V a3 au;have al:=z6 (E.out.push aa V);have ag:=z6 ((KpN.of_kpM (ob:=obS m b.length c) a1.out).trans (KpN.grown V) (.inl rfl));have af:Hid (obS (S ⟨U,0,N⟩) (b++[(x,k,n,d)]).length a2=obS m b.length c\/∃g,obS (S ⟨U,0,N⟩) (b++[(x,k,n,d)]).length a2=S g/\w.heap.size<=g):=by
   rcases a3 with e|e;·exact .inl e.symm
   ·exact .inr ⟨U,rfl,by omega⟩
  have D:=z6 (aj.out w6 R k (d+1) _ _ _ r al.out W ah.out (by simp;omega) (by omega));rw[List.length_append]at D;simp only[List.length_singleton]at D;clear aa V a3 au;go_wp2_with fail;have am:((d:Int)+1)=((d+1:Nat):Int):=by omega
  rw[am];refine(D.out.mono (λe' w7 hP=>(Qq.go (l:=[(x,k,n,d)]) ag.out af.out hP).form)).mono ?_;rintro _ w7⟨a7,m7,c7,rfl,M⟩;clear D;simp only[];go_wp2_with fail;go_ret;exact M.out
 ·have av:n=k:=by omega
  subst av;have j:=HL.out;rw[if_neg y]at j;have:=Option.some.inj j;subst this;have M:Hid (Qq w0 tb eb ec H (.slice (S ⟨xg,0,N⟩) ps.length xc) (.slice (S ⟨t,0,N⟩) rs.length rc) ps rs s rbs m c b [] w (.returned (.slice m b.length c)) v):=z6 ⟨m,c,by simp,by rw[List.append_nil];exact E.out,KpN.of_kpM a1.out,.inl (by simp)⟩;go_wp2_with fail;go_ret;exact M.out
end
section
variable {w0 : World} {B gb tb eb ec H : Nat} {vx vr : Value} {ps : List (RE × Value × Value)} {rs : List (z7 × Nat)} {s : ByteArray} {rbs : List Nat}
structure LpN(w0:World)(tb eb ec H:Nat)(vx vr:Value)(ps:List (RE×Value×Value))(rs:List (z7×Nat))(s:ByteArray)(rbs:List Nat)(a:Option Addr)(c:Nat)(xs l:List Nod)(O:Obj)(w:World)(a':Option Addr)(n' c':Nat)(dn lr:List Nod)(kk:Nat)(wr:World):Prop where
 all:l=dn++lr
 kle:kk<=s.size
 len:n'=(xs++dn).length
 nd:NdS w0 tb eb ec H vx vr ps rs s rbs a' c' (xs++dn) wr
 kp:KpN rbs (obS a xs.length c) w wr
 at_:obS a' (xs++dn).length c'=obS a xs.length c\/∃g,obS a' (xs++dn).length c'=some g/\w.heap.size<g
 own:wr.heap[w.heap.size]?=some O
theorem LpN.start{a:Option Addr}{c:Nat}{b l:List Nod}{w:World}{k:Nat}(h:NdS w0 tb eb ec H vx vr ps rs s rbs a c b w)(d:k<=s.size)(O:Obj):LpN w0 tb eb ec H vx vr ps rs s rbs a c b l O w a b.length c [] l k (w.alloc O):=⟨rfl,d,by simp,by rw[List.append_nil];exact h.below (zc _ _),KpN.of_kpM (KpM.of_below (zc _ _)),.inl (by simp),zk _ _⟩
theorem LpN.listed{a:Option Addr}{c:Nat}{d l:List Nod}{O:Obj}{w:World}{m:Option Addr}{F n:Nat}{j o u:List Nod}{t:Nat}{wr x:World}{e:Ending}(h:LpN w0 tb eb ec H vx vr ps rs s rbs a c d l O w m F n j (o++u) t wr)(G:H<=w.heap.size)(D:S w.heap.size≠obS a d.length c)(y:Qq w0 tb eb ec H vx vr ps rs s rbs m n (d++j) o wr e x):∃f v i,e=.returned (.slice f v i)/\Hid (LpN w0 tb eb ec H vx vr ps rs s rbs a c d l O w f v i (j++o) u t x):=by
 obtain⟨f,i,rfl,p,q,r⟩:=y;have A:=zd h.own;have E:S w.heap.size≠obS m (d++j).length n:=by
  rcases h.at_ with e|⟨g,e,k⟩;·rw[e];exact D
  ·rw[e];intro b;have:=Option.some.inj b;omega
 rw[List.append_assoc]at p r;refine⟨f,_,i,rfl,z6 ⟨by rw[h.all,List.append_assoc],h.kle,by simp,p,h.kp.trans q ?_,?_,?_⟩⟩
 ·rcases h.at_ with e|⟨g,e,k⟩;·exact .inl e
  ·exact .inr ⟨g,e,by omega⟩
 ·rcases r with e|⟨g,e,k⟩
  ·rcases h.at_ with b|⟨g,b,k⟩;·exact .inl (e.trans b)
   ·exact .inr ⟨g,e.trans b,k⟩
  ·exact .inr ⟨g,e,by omega⟩
 ·rw[q.block _ A (λz=>by have:=h.nd.rlt _ z;omega) E];exact h.own
theorem LpN.triedM{a:Option Addr}{c:Nat}{m l:List Nod}{O:Obj}{w:World}{e:Option Addr}{k f:Nat}{g j:List Nod}{q i:Nat}{wr d:World}(h:LpN w0 tb eb ec H vx vr ps rs s rbs a c m l O w e k f g j q wr)(r:H<=w.heap.size)(p:Stt w0 tb eb ec vx vr ps rs s rbs d)(b:KpM rbs wr.heap.size wr d)(o:i<=s.size):LpN w0 tb eb ec H vx vr ps rs s rbs a c m l O w e k f g j i d:=by refine⟨h.all,o,h.len,h.nd.kpM p b,h.kp.trans (KpN.of_kpM b) (.inl rfl),h.at_,?_⟩;rw[b.block _ (zd h.own) (λn=>by have:=h.nd.rlt _ n;omega)];exact h.own
theorem LpN.post{a:Option Addr}{c:Nat}{i l:List Nod}{O:Obj}{w:World}{b:Option Addr}{f d:Nat}{j:List Nod}{k:Nat}{wr:World}(h:LpN w0 tb eb ec H vx vr ps rs s rbs a c i l O w b f d j [] k wr):Qq w0 tb eb ec H vx vr ps rs s rbs a c i l w (.returned (.slice b f d)) wr:=by
 have e:=h.all;rw[List.append_nil]at e;subst e;refine⟨b,d,by rw[h.len],h.nd,h.kp,?_⟩;rcases h.at_ with e|⟨g,e,m⟩;·exact .inl e
 ·exact .inr ⟨g,e,by omega⟩
theorem zgU(L:Env w0 B gb vx vr ps rs s rbs)(f:Nat)(hT:JM w0 tb eb ec vx vr ps rs s rbs f)(hN:K7 w0 tb eb ec H vx vr ps rs s rbs f)(w:World)(i k d:Nat)(A:Option Addr)(c:Nat)(u x:List Nod)(e:RE)(h:NdS w0 tb eb ec H vx vr ps rs s rbs A c u w)(hk:k<=s.size)(hx:(zK ps)[i]?=S e)(ae:okE (zj rs) e=true)(a9:e.kind=5)(X:JC (evS ps rs s f) (λi k=>ndS ps rs s f i k d) e.parts k=S x)(aO:u.length+x.length<=100000)(aB:d+x.length<=100000):Calls P 76 #[.pointer (S ⟨tb,0,N⟩),I J i,I J k,I J d,.slice A u.length c] w (Qq w0 tb eb ec H vx vr ps rs s rbs A c u x w):=by
 obtain⟨xg,xc,ia,ic,O,R,hi,rfl,aN,c0,c1,c2,c3,c4,az,ag,au,aC,_,_,av⟩:=h.st.exq L hx ae;obtain⟨aL,aJ,ay,q⟩:=h.st.cells;have aH:=L.ple;have aI:=L.sle;have aD:(i:Int)<ps.length:=by omega
 have ap:=z6 hT;have ak:=z6 hN;have q0:w.cell? ⟨tb,0,N⟩=S (.slice (S ⟨xg,0,N⟩) ps.length xc):=q 0;have hw:=h.hle;have al:Hid (S w.heap.size≠obS A u.length c):=z6 (λe=>Nat.lt_irrefl _ (h.row.lt _ e.symm).2);rw[a9]at c0;obtain⟨b,Y⟩:∃b,b=e.parts:=⟨_,rfl⟩;rw[<-Y]at c4 X az;have am:Hid (∀j (hj:j<b.length),∃n,O=S ⟨n,0,N⟩/\n<w0.heap.size/\w0.cell? ⟨n,j,N⟩=S (I J b[j])):=by rw[Y];exact ag
 clear ag au av hT q ay a9 Y hN;generalize e.items.length=il at *;generalize rfE (zj rs) e 0=z at *;generalize e.text=tx at *;have ao:=z6 (LpN.start (l:=x) h hk (Obj.cells #[I J 5,.slice ia il ic,.string ⟨tx.toArray⟩,I J z,.slice O b.length R] 149 (0,0)));have HL:=z6 X;clear h hx L X ae;go_enter func76,ntmps76;go_wp2_with fail;go_loopg[2,4,14] b.length (λm va vl vj wr=>∃(j r:Nat) (F:Option Addr) (n' G:Nat) (K M:List Nod),m=b.length-j/\va=I J r/\vl=.slice F n' G/\vj=I J j/\j<=b.length/\Hid (JC (evS ps rs s f) (λi k=>ndS ps rs s f i k d) (b.drop j) r=S M)/\Hid (LpN w0 tb eb ec H (.slice (S ⟨xg,0,N⟩) ps.length xc) vr ps rs s rbs A c u x (Obj.cells #[I J 5,.slice ia il ic,.string ⟨tx.toArray⟩,I J z,.slice O b.length R] 149 (0,0)) w F n' G K M r wr));case atStart=>exact⟨0,k,A,u.length,c,[],x,by omega,rfl,rfl,rfl,by omega,HL,ao⟩
 case round=>
  obtain⟨j,r,F,n',G,K,M,rfl,rfl,rfl,rfl,hj,a2,p⟩:=hrel;obtain⟨aM,aK,af,_⟩:=p.out.nd.st.cells;have o4:wr.cell? ⟨w.heap.size,4,N⟩=S (.slice O b.length R):=z8 p.out.own 4;have aP:=za p.out.own;by_cases ab:j<b.length
  ·have ad:(j:Int)<b.length:=by omega
   obtain⟨n,rfl,Z,a5⟩:=am.out j ab;have a6:wr.cell? ⟨n,j,N⟩=S (I J b[j]):=by rw[World.cell?_of_block (a:=⟨n,j,N⟩) (af n Z)];exact a5
   have aF:n<wr.heap.size:=by omega
   have g:=a2.out;rw[List.drop_eq_getElem_cons ab]at g;simp only[JC]at g;obtain⟨t,y,D,a0,a7,ah,ax⟩:∃t y D,evS ps rs s f b[j] r=S (S t)/\ndS ps rs s f b[j] r d=S y/\JC (evS ps rs s f) (λi k=>ndS ps rs s f i k d) (b.drop (j+1)) t=S D/\M=y++D:=by
    cases hF:evS ps rs s f b[j] r with
    |none=>rw[hF]at g;cases g
    |some o=>
     rw[hF]at g;cases o with
     |none=>cases g
     |some t=>
      simp only[]at g;cases hG:ndS ps rs s f b[j] r d with
      |none=>rw[hG]at g;cases g
      |some y=>
       rw[hG]at g;simp only[]at g;cases V:JC (evS ps rs s f) (λi k=>ndS ps rs s f i k d) (b.drop (j+1)) t with
       |none=>rw[V]at g;cases g|some D=>rw[V]at g;exact⟨t,y,D,rfl,rfl,V,(Option.some.inj g).symm⟩
   subst ax;have a4:=congrArg List.length p.out.all;simp only[List.length_append]at a4;have aa:=p.out.len;have W:=ak.out wr b[j] r d F G (u++K) y p.out.nd p.out.kle a7 (by rw[List.length_append];omega) (by omega);rw[<-aa]at W;have a1:=z6 (W.mono (λe' E hP=>p.out.listed hw al.out hP));have aw:t<=s.size:=(JO _ _ _ _ a0 (show r<=s.data.toList.length from p.out.kle)).2;have aq:=z6 a0;have an:=z6 ah;generalize b[j]=pj at *;clear g a0 a7 ah af a5 W a4 aa;go_wp2_with fail;refine a1.out.mono ?_;rintro _ E⟨a3,n3,c3,rfl,v⟩;have aA:E.cell? ⟨w.heap.size,4,N⟩=S (.slice (S ⟨n,0,N⟩) b.length R):=z8 v.out.own 4;have aQ:=za v.out.own;have ar:E.cell? ⟨n,j,N⟩=S (I J pj):=by have h1:=(v.out.nd.st.cells).2.2.1 n Z;have h2:=(p.out.nd.st.cells).2.2.1 n Z;rw[World.cell?_of_block (a:=⟨n,j,N⟩) (h1.trans h2.symm)];exact a6
   have aG:n<E.heap.size:=by have:=(v.out.nd.st.cells).2.1;omega
   have U:=z6 (ap.out E pj r (S t) v.out.nd.st v.out.kle aq.out);simp only[QI]at U;clear a1 a6 o4;simp only[];go_wp2_with fail;refine U.out.mono ?_;rintro _ w4⟨rfl,ai,a8⟩;have aj:=z6 (v.out.triedM hw ai a8 aw);clear ai a8 U ar aA;go_wp2_with fail;go_roundg (b.length-(j+1));case measure=>omega
   case rel=>exact⟨j+1,t,a3,n3,c3,K++y,D,rfl,rfl,rfl,by go_num,by omega,an,aj⟩
  ·have ad:¬(j:Int)<b.length:=by omega
   have aE:decide ((j:Int)<b.length)=false:=by simpa using ad
   have g:=a2.out;rw[List.drop_of_length_le (by omega)]at g;have:=Option.some.inj g;subst this;have HZ:=z6 p.out.post;clear g;go_wp2_with fail;go_ret;exact HZ.out
end
section
variable {w0 : World} {B gb tb eb ec H : Nat} {vx vr : Value} {ps : List (RE × Value × Value)} {rs : List (z7 × Nat)} {s : ByteArray} {rbs : List Nat}
theorem zgP(R:Env w0 B gb vx vr ps rs s rbs)(f:Nat)(hT:JM w0 tb eb ec vx vr ps rs s rbs f)(hN:K7 w0 tb eb ec H vx vr ps rs s rbs f)(w:World)(i k d:Nat)(p:Option Addr)(c:Nat)(r g:List Nod)(e:RE)(h:NdS w0 tb eb ec H vx vr ps rs s rbs p c r w)(G:k<=s.size)(hx:(zK ps)[i]?=S e)(ae:okE (zj rs) e=true)(a9:e.kind=6)(hl:chD (evS ps rs s f) (λi k=>ndS ps rs s f i k d) e.parts k=S g)(ar:r.length+g.length<=100000)(am:d+g.length<=100000):Calls P 76 #[.pointer (S ⟨tb,0,N⟩),I J i,I J k,I J d,.slice p r.length c] w (Qq w0 tb eb ec H vx vr ps rs s rbs p c r g w):=by
 obtain⟨O,M,W,X,Z,D,hi,rfl,aI,c0,av,c2,c3,c4,aq,af,an,ax,_,_,ao⟩:=h.st.exq R hx ae;obtain⟨aG,aE,ap,q⟩:=h.st.cells;have aC:=R.ple;have aD:=R.sle;have ay:(i:Int)<ps.length:=by omega
 have ak:=z6 hT;have ah:=z6 hN;have q0:w.cell? ⟨tb,0,N⟩=S (.slice (S ⟨O,0,N⟩) ps.length M):=q 0;have hw:=h.hle;have au:Hid (S w.heap.size≠obS p r.length c):=z6 (λe=>Nat.lt_irrefl _ (h.row.lt _ e.symm).2);rw[a9]at c0;obtain⟨b,a3⟩:∃b,b=e.parts:=⟨_,rfl⟩;rw[<-a3]at c4 hl aq;have ai:Hid (∀j (hj:j<b.length),∃n,Z=S ⟨n,0,N⟩/\n<w0.heap.size/\w0.cell? ⟨n,j,N⟩=S (I J b[j])):=by rw[a3];exact af
 clear af an ao hT q ap a9 a3 hN;generalize e.items.length=Y at *;generalize rfE (zj rs) e 0=z at *;generalize e.text=tx at *;have aj:=z6 (LpN.start (l:=g) h G (Obj.cells #[I J 6,.slice W Y X,.string ⟨tx.toArray⟩,I J z,.slice Z b.length D] 149 (0,0)));have HL:=z6 hl;clear h hx R hl ae;go_enter func76,ntmps76;go_wp2_with fail;go_loopg[15] b.length (λm vj wr=>∃(j:Nat),m=b.length-j/\vj=I J j/\j<=b.length/\Hid (chD (evS ps rs s f) (λi k=>ndS ps rs s f i k d) (b.drop j) k=S g)/\Hid (LpN w0 tb eb ec H (.slice (S ⟨O,0,N⟩) ps.length M) vr ps rs s rbs p c r g (Obj.cells #[I J 6,.slice W Y X,.string ⟨tx.toArray⟩,I J z,.slice Z b.length D] 149 (0,0)) w p r.length c [] g k wr));case atStart=>exact⟨0,by omega,rfl,by omega,HL,aj⟩
 case round=>
  obtain⟨j,rfl,rfl,hj,a8,v⟩:=hrel;obtain⟨aH,aF,a2,_⟩:=v.out.nd.st.cells;have o4:wr.cell? ⟨w.heap.size,4,N⟩=S (.slice Z b.length D):=z8 v.out.own 4;have aJ:=za v.out.own;by_cases aa:j<b.length
  ·have ab:(j:Int)<b.length:=by omega
   obtain⟨n,rfl,ag,U⟩:=ai.out j aa;have al:wr.cell? ⟨n,j,N⟩=S (I J b[j]):=by rw[World.cell?_of_block (a:=⟨n,j,N⟩) (a2 n ag)];exact U
   have aB:n<wr.heap.size:=by omega
   have t:=a8.out;rw[List.drop_eq_getElem_cons aa]at t;simp only[chD]at t;obtain⟨o,a4,V⟩:∃o,evS ps rs s f b[j] k=S o/\(match o with|none=>chD (evS ps rs s f) (λi k=>ndS ps rs s f i k d) (b.drop (j+1)) k=S g|some _=>ndS ps rs s f b[j] k d=S g):=by
    cases hF:evS ps rs s f b[j] k with
    |none=>rw[hF]at t;cases t|some o=>rw[hF]at t;exact⟨o,rfl,by cases o<;>exact t⟩
   have A:=z6 (ak.out wr b[j] k o v.out.nd.st G a4);have a0:Hid (∀u,LpN w0 tb eb ec H (.slice (S ⟨O,0,N⟩) ps.length M) vr ps rs s rbs p c r g (Obj.cells #[I J 6,.slice W Y X,.string ⟨tx.toArray⟩,I J z,.slice (S ⟨n,0,N⟩) b.length D] 149 (0,0)) w p r.length c [] g k u->u.cell? ⟨n,j,N⟩=S (I J b[j])/\n<u.heap.size):=z6 (λu F=>by refine⟨?_,by have:=(F.nd.st.cells).2.1;omega⟩;rw[World.cell?_of_block (a:=⟨n,j,N⟩) ((F.nd.st.cells).2.2.1 n ag)];exact U)
   cases o with
   |none=>
    have E:=z6 V;simp only[]at E;simp only[JN]at A;generalize b[j]=pj at *;clear t a4 V a2 U a0;go_wp2_with fail;refine A.out.mono ?_;rintro _ w4⟨rfl,L,K⟩;have x:=z6 (v.out.triedM hw L K G);clear L K A;go_wp2_with fail;go_roundg (b.length-(j+1));case measure=>omega
    case rel=>exact⟨j+1,rfl,by go_num,by omega,E,x⟩
   |some y=>
    have E:=z6 V;simp only[]at E;simp only[QI]at A;have hy:(0:Int)<=(y:Int):=by omega
    have a7:Hid (∀u,LpN w0 tb eb ec H (.slice (S ⟨O,0,N⟩) ps.length M) vr ps rs s rbs p c r g (Obj.cells #[I J 6,.slice W Y X,.string ⟨tx.toArray⟩,I J z,.slice (S ⟨n,0,N⟩) b.length D] 149 (0,0)) w p r.length c [] g k u->Calls P 76 #[.pointer (S ⟨tb,0,N⟩),I J b[j],I J k,I J d,.slice p r.length c] u λe' w5=>∃a5 n5 c5,e'=.returned (.slice a5 n5 c5)/\Hid (Qq w0 tb eb ec H (.slice (S ⟨O,0,N⟩) ps.length M) vr ps rs s rbs p c r g w (.returned (.slice a5 n5 c5)) w5)):=z6 (λu F=>by have ad:=F.nd;rw[List.append_nil]at ad;refine(ah.out u b[j] k d p c r g ad G E.out ar am).mono (λe' w5 hP=> ?_);have:=Qq.go (a1:=p) (c1:=c) (l:=[]) (l2:=g) F.kp (.inl (by simp)) (by rw[List.append_nil];exact hP);exact this.form)
    generalize b[j]=pj at *;clear t a4 V a2 U;go_wp2_with fail;refine A.out.mono ?_;rintro _ w4⟨rfl,L,K⟩;have x:=z6 (v.out.triedM hw L K G);obtain⟨aw,az⟩:=a0.out _ x.out;have aL:w4.cell? ⟨w.heap.size,4,N⟩=S (.slice (S ⟨n,0,N⟩) b.length D):=z8 x.out.own 4;have aK:=za x.out.own;have a6:=z6 (a7.out _ x.out);clear L K A a7 a0 al o4;go_wp2_with fail;refine a6.out.mono ?_;rintro _ w5⟨a5,n5,c5,rfl,HZ⟩;clear a6;simp only[];go_wp2_with fail;go_ret;exact HZ.out
  ·have ab:¬(j:Int)<b.length:=by omega
   have aA:decide ((j:Int)<b.length)=false:=by simpa using ab
   have t:=a8.out;rw[List.drop_of_length_le (by omega)]at t;have:=Option.some.inj t;subst this;have HZ:=z6 v.out.post;clear t;go_wp2_with fail;go_ret;exact HZ.out
end
section
variable {w0 : World} {B gb tb eb ec H : Nat} {vx vr : Value} {ps : List (RE × Value × Value)} {rs : List (z7 × Nat)} {s : ByteArray} {rbs : List Nat}
theorem zgT(hE:Env w0 B gb vx vr ps rs s rbs)(f:Nat)(hT:JM w0 tb eb ec vx vr ps rs s rbs f)(hN:K7 w0 tb eb ec H vx vr ps rs s rbs f)(w:World)(i k d:Nat)(R:Option Addr)(c:Nat)(E M:List Nod)(e:RE)(h:NdS w0 tb eb ec H vx vr ps rs s rbs R c E w)(hk:k<=s.size)(hx:(zK ps)[i]?=S e)(aC:okE (zj rs) e=true)(ax:e.kind=7\/e.kind=8\/e.kind=9)(hl:ZM (evS ps rs s f) (λi k=>ndS ps rs s f i k d) (e.parts.headD 0) (e.kind==7) f k=S M)(b0:E.length+M.length<=100000)(aR:d+M.length<=100000):Calls P 76 #[.pointer (S ⟨tb,0,N⟩),I J i,I J k,I J d,.slice R E.length c] w (Qq w0 tb eb ec H vx vr ps rs s rbs R c E M w):=by
 obtain⟨xg,xc,ia,ic,pa,L,hi,rfl,aZ,c0,c1,c2,c3,c4,aV,aD,aK,aS,_,aP,aL⟩:=h.st.exq hE hx aC;obtain⟨aY,aX,aO,q⟩:=h.st.cells;obtain⟨n,ap⟩:=aP (by omega);have aU:=hE.ple;have aW:=hE.sle;have aT:(i:Int)<ps.length:=by omega
 have af:=z6 hT;have aq:=z6 hN;have q0:w.cell? ⟨tb,0,N⟩=S (.slice (S ⟨xg,0,N⟩) ps.length xc):=q 0;have hw:=h.hle;have ar:Hid (S w.heap.size≠obS R E.length c):=z6 (λe=>Nat.lt_irrefl _ (h.row.lt _ e.symm).2);obtain⟨y,rfl,aQ,av⟩:=aD 0 (by rw[ap];simp);rw[ap]at c4 hl;simp only[ap,List.getElem_cons_zero]at av;simp only[List.length_singleton,List.headD_cons]at c4 hl;clear aD aK aL hT q aO hN;generalize e.items.length=il at *;generalize rfE (zj rs) e 0=z at *;generalize e.text=tx at *;have an:=z6 (LpN.start (l:=M) h hk (Obj.cells #[I J e.kind,.slice ia il ic,.string ⟨tx.toArray⟩,I J z,.slice (S ⟨y,0,N⟩) 1 L] 149 (0,0)));have a4:Hid (∀(O:Obj) (u:Option Addr) (K v:Nat) (D t:List Nod) (b:Nat) (w3:World),LpN w0 tb eb ec H (.slice (S ⟨xg,0,N⟩) ps.length xc) vr ps rs s rbs R c E M O w u K v D t b w3->w3.cell? ⟨y,0,N⟩=S (I J n)/\y<w3.heap.size):=z6 (λO u K v D t b w3 h3=>by refine⟨?_,by have:=(h3.nd.st.cells).2.1;omega⟩;rw[World.cell?_of_block (a:=⟨y,0,N⟩) ((h3.nd.st.cells).2.2.1 y aQ)];exact av)
 have HL:=z6 hl;obtain⟨kd,ay⟩:∃kd,kd=e.kind:=⟨_,rfl⟩;rw[<-ay]at an HL c0 ax;clear h hx hE hl aC av ap ay;rcases ax with rfl|rfl|rfl;all_goals go_enter func76,ntmps76;go_wp2_with fail
 ·go_loopg[2,4] f (λm va vl wr=>∃(Y b:Nat) (u:Option Addr) (K v:Nat) (D t:List Nod),Y=m/\va=I J b/\vl=.slice u K v/\Hid (ZM (evS ps rs s f) (λi k=>ndS ps rs s f i k d) n true Y b=S t)/\Hid (LpN w0 tb eb ec H (.slice (S ⟨xg,0,N⟩) ps.length xc) vr ps rs s rbs R c E M (Obj.cells #[I J ((7:Nat):Int),.slice ia il ic,.string ⟨tx.toArray⟩,I J z,.slice (S ⟨y,0,N⟩) 1 L] 149 (0,0)) w u K v D t b wr));case atStart=>exact⟨f,k,R,E.length,c,[],M,rfl,rfl,rfl,HL,an⟩
  case round=>
   obtain⟨Y,b,u,K,v,D,t,rfl,rfl,rfl,a8,j⟩:=hrel;cases Y with
   |zero=>have:=a8.out;simp[ZM]at this
   |succ c1=>
    have g:=a8.out;simp only[ZM]at g;obtain⟨o,W,a3⟩:∃o,evS ps rs s f n b=S o/\(match o with|none=>t=[]|some r=>∃p,ndS ps rs s f n b d=S p/\t=p):=by
     cases hF:evS ps rs s f n b with
     |none=>rw[hF]at g;cases g|some o=>
     rw[hF]at g;cases o with
     |none=>exact⟨N,rfl,(Option.some.inj g).symm⟩|some r=>
     simp only[]at g;cases hG:ndS ps rs s f n b d with
     |none=>rw[hG]at g;cases g|some p=>rw[hG]at g;simp only[Bool.false_eq_true,if_false,if_true]at g;exact⟨S r,rfl,p,rfl,(Option.some.inj g).symm⟩
    have G:=z6 (af.out wr n b o j.out.nd.st j.out.kle W);have o4:wr.cell? ⟨w.heap.size,4,N⟩=S (.slice (S ⟨y,0,N⟩) 1 L):=z8 j.out.own 4;have aE:=za j.out.own;obtain⟨ah,az⟩:=a4.out _ _ _ _ _ _ _ _ j.out;have ag:=z6 W;cases o with
    |none=>have a2:t=[]:=a3;subst a2;simp only[JN]at G;clear g W a3;go_wp2_with fail;refine G.out.mono ?_;rintro _ A⟨rfl,V,U⟩;have HZ:=z6 (j.out.triedM hw V U j.out.kle).post;clear V U G;go_wp2_with fail;go_ret;exact HZ.out
    |some r=>
     simp only[QI]at G;obtain⟨p,ab,a2⟩:=a3;obtain⟨x,aM⟩:∃x:List Nod,t=p++x/\x=[]:=⟨[],by rw[a2,List.append_nil],rfl⟩;obtain⟨aN,ao⟩:=aM;subst aN;have hy:(0:Int)<=(r:Int):=by omega
     have ak:r<=s.size:=(JO _ _ _ _ W (show b<=s.data.toList.length from j.out.kle)).2;have a9:=congrArg List.length j.out.all;simp only[List.length_append]at a9;have a7:Hid (∀A,LpN w0 tb eb ec H (.slice (S ⟨xg,0,N⟩) ps.length xc) vr ps rs s rbs R c E M (Obj.cells #[I J ((7:Nat):Int),.slice ia il ic,.string ⟨tx.toArray⟩,I J z,.slice (S ⟨y,0,N⟩) 1 L] 149 (0,0)) w u K v D (p++x) b A->Calls P 76 #[.pointer (S ⟨tb,0,N⟩),I J n,I J b,I J d,.slice u K v] A λe' w5=>∃a5 n5 c5,e'=.returned (.slice a5 n5 c5)/\Hid (LpN w0 tb eb ec H (.slice (S ⟨xg,0,N⟩) ps.length xc) vr ps rs s rbs R c E M (Obj.cells #[I J ((7:Nat):Int),.slice ia il ic,.string ⟨tx.toArray⟩,I J z,.slice (S ⟨y,0,N⟩) 1 L] 149 (0,0)) w a5 n5 c5 (D++p) x b w5)):=z6 (λA Z=>by have aa:=aq.out A n b d u v (E++D) p Z.nd Z.kle ab (by rw[List.length_append];omega) (by omega);rw[<-Z.len]at aa;exact aa.mono (λe' w3 hP=>Z.listed hw ar.out hP))
     have aJ:=z6 ao;clear ao;clear g W ab a9;go_wp2_with fail;refine G.out.mono ?_;rintro _ A⟨rfl,V,U⟩;have X:=z6 (j.out.triedM hw V U j.out.kle);obtain⟨ai,aA⟩:=a4.out _ _ _ _ _ _ _ _ X.out;have al:A.cell? ⟨w.heap.size,4,N⟩=S (.slice (S ⟨y,0,N⟩) 1 L):=z8 X.out.own 4;have aF:=za X.out.own;have a6:=z6 (a7.out _ X.out);clear V U G a7 ah o4;go_wp2_with fail;refine a6.out.mono ?_;rintro _ w5⟨a5,n5,c5,rfl,F⟩;obtain⟨aj,aB⟩:=a4.out _ _ _ _ _ _ _ _ F.out;have am:w5.cell? ⟨w.heap.size,4,N⟩=S (.slice (S ⟨y,0,N⟩) 1 L):=z8 F.out.own 4;have aG:=za F.out.own;have a1:=z6 (af.out w5 n b (S r) F.out.nd.st F.out.kle ag.out);simp only[QI]at a1;clear a6 ai al;simp only[];go_wp2_with fail;refine a1.out.mono ?_;rintro _ w6⟨rfl,ae,ad⟩;have a0:=z6 (F.out.triedM hw ae ad ak);have aI:w6.cell? ⟨w.heap.size,0,N⟩=S (I J ((7:Nat):Int)):=z8 a0.out.own 0;have aH:=za a0.out.own;clear ae ad a1 aj am;have ao:=aJ.out;subst ao;have HZ:=z6 a0.out.post;go_wp2_with fail;go_ret;exact HZ.out
 ·go_loopg[2,4] f (λm va vl wr=>∃(Y b:Nat) (u:Option Addr) (K v:Nat) (D t:List Nod),Y=m/\va=I J b/\vl=.slice u K v/\Hid (ZM (evS ps rs s f) (λi k=>ndS ps rs s f i k d) n false Y b=S t)/\Hid (LpN w0 tb eb ec H (.slice (S ⟨xg,0,N⟩) ps.length xc) vr ps rs s rbs R c E M (Obj.cells #[I J ((8:Nat):Int),.slice ia il ic,.string ⟨tx.toArray⟩,I J z,.slice (S ⟨y,0,N⟩) 1 L] 149 (0,0)) w u K v D t b wr));case atStart=>exact⟨f,k,R,E.length,c,[],M,rfl,rfl,rfl,HL,an⟩
  case round=>
   obtain⟨Y,b,u,K,v,D,t,rfl,rfl,rfl,a8,j⟩:=hrel;cases Y with
   |zero=>have:=a8.out;simp[ZM]at this
   |succ c1=>
    have g:=a8.out;simp only[ZM]at g;obtain⟨o,W,a3⟩:∃o,evS ps rs s f n b=S o/\(match o with|none=>t=[]|some r=>∃p,ndS ps rs s f n b d=S p/\∃x,ZM (evS ps rs s f) (λi k=>ndS ps rs s f i k d) n false c1 r=S x/\t=p++x):=by
     cases hF:evS ps rs s f n b with
     |none=>rw[hF]at g;cases g|some o=>
     rw[hF]at g;cases o with
     |none=>exact⟨N,rfl,(Option.some.inj g).symm⟩|some r=>
     simp only[]at g;cases hG:ndS ps rs s f n b d with
     |none=>rw[hG]at g;cases g
     |some p=>
      rw[hG]at g;simp only[Bool.false_eq_true,if_false,if_true]at g;cases hS:ZM (evS ps rs s f) (λi k=>ndS ps rs s f i k d) n false c1 r with
      |none=>rw[hS]at g;cases g|some x=>rw[hS]at g;exact⟨S r,rfl,p,rfl,x,hS,(Option.some.inj g).symm⟩
    have G:=z6 (af.out wr n b o j.out.nd.st j.out.kle W);have o4:wr.cell? ⟨w.heap.size,4,N⟩=S (.slice (S ⟨y,0,N⟩) 1 L):=z8 j.out.own 4;have aE:=za j.out.own;obtain⟨ah,az⟩:=a4.out _ _ _ _ _ _ _ _ j.out;have ag:=z6 W;cases o with
    |none=>have a2:t=[]:=a3;subst a2;simp only[JN]at G;clear g W a3;go_wp2_with fail;refine G.out.mono ?_;rintro _ A⟨rfl,V,U⟩;have HZ:=z6 (j.out.triedM hw V U j.out.kle).post;clear V U G;go_wp2_with fail;go_ret;exact HZ.out
    |some r=>
     simp only[QI]at G;obtain⟨p,ab,x,aw,a2⟩:=a3;subst a2;have au:=z6 aw;have hy:(0:Int)<=(r:Int):=by omega
     have ak:r<=s.size:=(JO _ _ _ _ W (show b<=s.data.toList.length from j.out.kle)).2;have a9:=congrArg List.length j.out.all;simp only[List.length_append]at a9;have a7:Hid (∀A,LpN w0 tb eb ec H (.slice (S ⟨xg,0,N⟩) ps.length xc) vr ps rs s rbs R c E M (Obj.cells #[I J ((8:Nat):Int),.slice ia il ic,.string ⟨tx.toArray⟩,I J z,.slice (S ⟨y,0,N⟩) 1 L] 149 (0,0)) w u K v D (p++x) b A->Calls P 76 #[.pointer (S ⟨tb,0,N⟩),I J n,I J b,I J d,.slice u K v] A λe' w5=>∃a5 n5 c5,e'=.returned (.slice a5 n5 c5)/\Hid (LpN w0 tb eb ec H (.slice (S ⟨xg,0,N⟩) ps.length xc) vr ps rs s rbs R c E M (Obj.cells #[I J ((8:Nat):Int),.slice ia il ic,.string ⟨tx.toArray⟩,I J z,.slice (S ⟨y,0,N⟩) 1 L] 149 (0,0)) w a5 n5 c5 (D++p) x b w5)):=z6 (λA Z=>by have aa:=aq.out A n b d u v (E++D) p Z.nd Z.kle ab (by rw[List.length_append];omega) (by omega);rw[<-Z.len]at aa;exact aa.mono (λe' w3 hP=>Z.listed hw ar.out hP))
     clear g W ab a9;go_wp2_with fail;refine G.out.mono ?_;rintro _ A⟨rfl,V,U⟩;have X:=z6 (j.out.triedM hw V U j.out.kle);obtain⟨ai,aA⟩:=a4.out _ _ _ _ _ _ _ _ X.out;have al:A.cell? ⟨w.heap.size,4,N⟩=S (.slice (S ⟨y,0,N⟩) 1 L):=z8 X.out.own 4;have aF:=za X.out.own;have a6:=z6 (a7.out _ X.out);clear V U G a7 ah o4;go_wp2_with fail;refine a6.out.mono ?_;rintro _ w5⟨a5,n5,c5,rfl,F⟩;obtain⟨aj,aB⟩:=a4.out _ _ _ _ _ _ _ _ F.out;have am:w5.cell? ⟨w.heap.size,4,N⟩=S (.slice (S ⟨y,0,N⟩) 1 L):=z8 F.out.own 4;have aG:=za F.out.own;have a1:=z6 (af.out w5 n b (S r) F.out.nd.st F.out.kle ag.out);simp only[QI]at a1;clear a6 ai al;simp only[];go_wp2_with fail;refine a1.out.mono ?_;rintro _ w6⟨rfl,ae,ad⟩;have a0:=z6 (F.out.triedM hw ae ad ak);have aI:w6.cell? ⟨w.heap.size,0,N⟩=S (I J ((8:Nat):Int)):=z8 a0.out.own 0;have aH:=za a0.out.own;clear ae ad a1 aj am;go_wp2_with fail;go_roundg c1;case measure=>omega
     case rel=>exact⟨c1,r,a5,n5,c5,D++p,x,rfl,rfl,rfl,au,a0⟩
 ·go_loopg[2,4] f (λm va vl wr=>∃(Y b:Nat) (u:Option Addr) (K v:Nat) (D t:List Nod),Y=m/\va=I J b/\vl=.slice u K v/\Hid (ZM (evS ps rs s f) (λi k=>ndS ps rs s f i k d) n false Y b=S t)/\Hid (LpN w0 tb eb ec H (.slice (S ⟨xg,0,N⟩) ps.length xc) vr ps rs s rbs R c E M (Obj.cells #[I J ((9:Nat):Int),.slice ia il ic,.string ⟨tx.toArray⟩,I J z,.slice (S ⟨y,0,N⟩) 1 L] 149 (0,0)) w u K v D t b wr));case atStart=>exact⟨f,k,R,E.length,c,[],M,rfl,rfl,rfl,HL,an⟩
  case round=>
   obtain⟨Y,b,u,K,v,D,t,rfl,rfl,rfl,a8,j⟩:=hrel;cases Y with
   |zero=>have:=a8.out;simp[ZM]at this
   |succ c1=>
    have g:=a8.out;simp only[ZM]at g;obtain⟨o,W,a3⟩:∃o,evS ps rs s f n b=S o/\(match o with|none=>t=[]|some r=>∃p,ndS ps rs s f n b d=S p/\∃x,ZM (evS ps rs s f) (λi k=>ndS ps rs s f i k d) n false c1 r=S x/\t=p++x):=by
     cases hF:evS ps rs s f n b with
     |none=>rw[hF]at g;cases g|some o=>
     rw[hF]at g;cases o with
     |none=>exact⟨N,rfl,(Option.some.inj g).symm⟩|some r=>
     simp only[]at g;cases hG:ndS ps rs s f n b d with
     |none=>rw[hG]at g;cases g
     |some p=>
      rw[hG]at g;simp only[Bool.false_eq_true,if_false,if_true]at g;cases hS:ZM (evS ps rs s f) (λi k=>ndS ps rs s f i k d) n false c1 r with
      |none=>rw[hS]at g;cases g|some x=>rw[hS]at g;exact⟨S r,rfl,p,rfl,x,hS,(Option.some.inj g).symm⟩
    have G:=z6 (af.out wr n b o j.out.nd.st j.out.kle W);have o4:wr.cell? ⟨w.heap.size,4,N⟩=S (.slice (S ⟨y,0,N⟩) 1 L):=z8 j.out.own 4;have aE:=za j.out.own;obtain⟨ah,az⟩:=a4.out _ _ _ _ _ _ _ _ j.out;have ag:=z6 W;cases o with
    |none=>have a2:t=[]:=a3;subst a2;simp only[JN]at G;clear g W a3;go_wp2_with fail;refine G.out.mono ?_;rintro _ A⟨rfl,V,U⟩;have HZ:=z6 (j.out.triedM hw V U j.out.kle).post;clear V U G;go_wp2_with fail;go_ret;exact HZ.out
    |some r=>
     simp only[QI]at G;obtain⟨p,ab,x,aw,a2⟩:=a3;subst a2;have au:=z6 aw;have hy:(0:Int)<=(r:Int):=by omega
     have ak:r<=s.size:=(JO _ _ _ _ W (show b<=s.data.toList.length from j.out.kle)).2;have a9:=congrArg List.length j.out.all;simp only[List.length_append]at a9;have a7:Hid (∀A,LpN w0 tb eb ec H (.slice (S ⟨xg,0,N⟩) ps.length xc) vr ps rs s rbs R c E M (Obj.cells #[I J ((9:Nat):Int),.slice ia il ic,.string ⟨tx.toArray⟩,I J z,.slice (S ⟨y,0,N⟩) 1 L] 149 (0,0)) w u K v D (p++x) b A->Calls P 76 #[.pointer (S ⟨tb,0,N⟩),I J n,I J b,I J d,.slice u K v] A λe' w5=>∃a5 n5 c5,e'=.returned (.slice a5 n5 c5)/\Hid (LpN w0 tb eb ec H (.slice (S ⟨xg,0,N⟩) ps.length xc) vr ps rs s rbs R c E M (Obj.cells #[I J ((9:Nat):Int),.slice ia il ic,.string ⟨tx.toArray⟩,I J z,.slice (S ⟨y,0,N⟩) 1 L] 149 (0,0)) w a5 n5 c5 (D++p) x b w5)):=z6 (λA Z=>by have aa:=aq.out A n b d u v (E++D) p Z.nd Z.kle ab (by rw[List.length_append];omega) (by omega);rw[<-Z.len]at aa;exact aa.mono (λe' w3 hP=>Z.listed hw ar.out hP))
     clear g W ab a9;go_wp2_with fail;refine G.out.mono ?_;rintro _ A⟨rfl,V,U⟩;have X:=z6 (j.out.triedM hw V U j.out.kle);obtain⟨ai,aA⟩:=a4.out _ _ _ _ _ _ _ _ X.out;have al:A.cell? ⟨w.heap.size,4,N⟩=S (.slice (S ⟨y,0,N⟩) 1 L):=z8 X.out.own 4;have aF:=za X.out.own;have a6:=z6 (a7.out _ X.out);clear V U G a7 ah o4;go_wp2_with fail;refine a6.out.mono ?_;rintro _ w5⟨a5,n5,c5,rfl,F⟩;obtain⟨aj,aB⟩:=a4.out _ _ _ _ _ _ _ _ F.out;have am:w5.cell? ⟨w.heap.size,4,N⟩=S (.slice (S ⟨y,0,N⟩) 1 L):=z8 F.out.own 4;have aG:=za F.out.own;have a1:=z6 (af.out w5 n b (S r) F.out.nd.st F.out.kle ag.out);simp only[QI]at a1;clear a6 ai al;simp only[];go_wp2_with fail;refine a1.out.mono ?_;rintro _ w6⟨rfl,ae,ad⟩;have a0:=z6 (F.out.triedM hw ae ad ak);have aI:w6.cell? ⟨w.heap.size,0,N⟩=S (I J ((9:Nat):Int)):=z8 a0.out.own 0;have aH:=za a0.out.own;clear ae ad a1 aj am;go_wp2_with fail;go_roundg c1;case measure=>omega
     case rel=>exact⟨c1,r,a5,n5,c5,D++p,x,rfl,rfl,rfl,au,a0⟩
theorem zgV(j:Env w0 B gb vx vr ps rs s rbs)(f:Nat)(q:K7 w0 tb eb ec H vx vr ps rs s rbs f):K7 w0 tb eb ec H vx vr ps rs s rbs (f+1):=by
 intro w i k d a c p l h u b o t;have r:=zaC (tb:=tb) (eb:=eb) (ec:=ec) j f;rw[ndS,ndR]at b;cases g:(zK ps)[i]? with
 |none=>rw[g]at b;cases b
 |some e=>
  rw[g]at b;simp only[]at b;split at b;rotate_left;·cases b
  rename_i m;unfold Yg at b;by_cases v:e.kind=4
  ·rw[if_pos v]at b;split at b;·rename_i n A;exact zgR j f r q w i k d a c p l e n h u g m v A b o t (by omega)
   ·cases b
  rw[if_neg v]at b;by_cases x:e.kind=5;·rw[if_pos x]at b;exact zgU j f r q w i k d a c p l e h u g m x b o t
  rw[if_neg x]at b;by_cases y:e.kind=6;·rw[if_pos y]at b;exact zgP j f r q w i k d a c p l e h u g m y b o t
  rw[if_neg y]at b;by_cases z:7<=e.kind/\e.kind<=9;·rw[if_pos z]at b;exact zgT j f r q w i k d a c p l e h u g m (by omega) b o t
  rw[if_neg z]at b;have:=Option.some.inj b;subst this;exact zgQ j w i k d a c p e h g m (by omega) (by simpa using o)
theorem zbV(a:Env w0 B gb vx vr ps rs s rbs):∀f,K7 w0 tb eb ec H vx vr ps rs s rbs f
 |0=>λ_ _ _ _ _ _ _ _ _ _ b _ _=>by simp[ndR]at b
 |f+1=>zgV a f (zbV a f)
end
def K0(x:Nat×Nt):List Nod:=(0,0,x.1,0)::zY 1 x.2
def Yw(t:List UInt8)(s:ByteArray)(B:Nat)(f:World)(v c:Value):Prop:=∃d,Zo t d/\match d with| .error (e,_)=>v=.slice N 0 0/\c=I J e| .ok (g,_)=>if 200<s.size then v=.slice N 0 0/\c=I J 1 else∃o,(∀h:0<g.length,Ev g s.data.toList (.C g[0].choice) 0 o)/\c=I J 0/\(match o with|none=>v=.slice N 0 0|some x=>∃a b,v=.slice a (K0 x).length b/\f.ownsRow B 60 4 (.slice a (K0 x).length b) (K0 x).length ((K0 x).flatMap ZZ))
def qF(t:List UInt8)(s:ByteArray)(w:World)(e:Ending)(a:World):Prop:=Below w.heap.size w a/\∃v c,e=.returned (.tuple #[v,c])/\Yw t s w.heap.size a v c
theorem qj{g:List ze}{E:List Bool}(a:JF g E)(c:g.length<=20){b:z7}(d:b.length<=200){x:Nat×Nt}(h:∀h:0<g.length,Ev g b (.C g[0].choice) 0 (S x)):szN x.2<=4000:=by have e:=Ev.few a (h a.pos) (a.good 0 a.pos);have f:g.length *b.length<=20 *200:=Nat.mul_le_mul c d;omega
theorem zil(t s:ByteArray)(w:World)(hs:t.size<=maxLen)(al:s.size<=maxLen)(r:Except (Nat×Nat) (List ze))(K:Zs t.data.toList r):Calls P 47 #[.string t,.string s] w λa3 w'=>qF t.data.toList s w a3 w':=by
 have a4:=zca t s w hs al r K;clear K;go_enter func47,ntmps47;go_wp2_with fail;refine a4.mono ?_;rintro a3 d⟨O,aq,K,z⟩;have i:=z6 O;have k:=z6 K;clear a4 O K;cases aq with
 |error a1=>
  obtain⟨er,p⟩:=a1;obtain⟨h0,rfl⟩:=z;have h1:¬(er:Int)=0:=by omega
  go_wp2_with fail;go_ret2;exact⟨i.out,_,_,rfl,.error (er,p),k.out,rfl,rfl⟩
 |ok y=>
  obtain⟨g,E⟩:=y;simp only[]at z;by_cases L:200<s.size;·rw[if_pos L]at z;subst z;go_wp2_with fail;go_ret2;refine⟨i.out,_,_,rfl,.ok (g,E),k.out,?_⟩;simp only[];rw[if_pos L];exact⟨rfl,rfl⟩
  ·rw[if_neg L]at z;obtain⟨tb,n,rfl,V⟩:=z;obtain⟨o,D⟩:=qh (inp:=s.data.toList) k.out.ends;have hn:=V.val o (λ_=>D);subst hn;have ah:=k.out.ends.pos;cases o with
   |none=>have U:zF (fin N)= -1:=rfl;simp only[U];have HO:=z6 D;clear V U D;go_wp2_with fail;go_ret2;refine⟨i.out,_,_,rfl,.ok (g,E),k.out,?_⟩;simp only[];rw[if_neg L];exact⟨N,λ_=>HO.out,rfl,rfl⟩
   |some a1=>
    obtain⟨c,m⟩:=a1;obtain⟨w0,B,gb,Y,ec,vx,vr,ps,h,a0,ax,j,A,R⟩:=V.ex;have U:zF (fin (S (c,m)))=(c:Int):=rfl;simp only[U];have ay:¬(c:Int)<0:=by omega
    have az:decide ((c:Int)<0)=false:=by simp
    obtain⟨an,am,a8,q⟩:=A.cells;obtain⟨l,rc,ao,_,aj⟩:=j.gm.ruAt j.rpos;have aa:=j.rpos;have a6:=j.gm;have ak:h.length=g.length:=(zV.get h g R).1;have ag:g.length<=20:=by have:=j.rle;omega
    have aw:=j.sle;subst ao;have d1:=(a6.ruCells 0 aa).2;have ar:d.cell? ⟨l,1,N⟩=S (I J h[0].2):=by rw[World.cell?_of_block (a:=⟨l,_,N⟩) (a8 l aj)];simpa using d1
    have q1:d.cell? ⟨tb,1,N⟩=S (.slice (S ⟨l,0,N⟩) h.length rc):=q 1;have a5:=Vv R aa ah;obtain⟨f,hf⟩:=(Ev.pgroup D).simD R c m rfl _ a5 1;have ab:=qj k.out.ends ag (show s.data.toList.length<=200 by show s.size<=200;omega) (x:=(c,m)) (λ_=>D);simp only[]at ab;have af:Y<d.heap.size:=by obtain⟨M,hT,_⟩:=A.ex;exact hT.elt
    have ai:∀b∈a0,w0.heap.size<=b:=by obtain⟨M,hT,_⟩:=A.ex;exact hT.rge
    have a9:=World.ownsRow_lit (base:=d.heap.size) (e:=60) (size:=4) d #[I J ((0:Nat):Int),I J ((0:Nat):Int),I J (c:Int),I J ((0:Nat):Int)] 1 (Nat.le_refl _) (by decide) rfl;have a7:NdS w0 tb Y ec d.heap.size vx (.slice (S ⟨l,0,N⟩) h.length rc) ps h s a0 (S ⟨d.heap.size,0,N⟩) 1 [(0,0,c,0)] (d.alloc (.cells #[I J ((0:Nat):Int),I J ((0:Nat):Int),I J (c:Int),I J ((0:Nat):Int)] 60 (0,0))):=⟨A.below (zc _ _),a9,an,af,A.fresh,am,by simp⟩;have W:=z6 (zbV j f _ h[0].2 0 1 (S ⟨d.heap.size,0,N⟩) 1 [(0,0,c,0)] (zY 1 m) a7 (Nat.zero_le _) hf (by rw[YS];simp;omega) (by rw[YS];omega));have X:Hid (∀G F,Qq w0 tb Y ec d.heap.size vx (.slice (S ⟨l,0,N⟩) h.length rc) ps h s a0 (S ⟨d.heap.size,0,N⟩) 1 [(0,0,c,0)] (zY 1 m) (d.alloc (.cells #[I J ((0:Nat):Int),I J ((0:Nat):Int),I J (c:Int),I J ((0:Nat):Int)] 60 (0,0))) G F->∃u n2 v,G=.returned (.slice u n2 v)/\Hid (qF t.data.toList s w (.returned (.tuple #[.slice u n2 v,I J 0])) F)):=z6 (λG F Z=>by
     obtain⟨u,v,he,h1,H,h3⟩:=Z;have hz:=i.out.size;have ap:=H.size;simp at ap;refine⟨u,_,v,he,z6 ⟨⟨H.os.trans i.out.os,H.tape.trans i.out.tape,H.output.trans i.out.output,by omega,λb O=> ?_⟩,_,_,rfl,.ok (g,E),k.out,?_⟩⟩;·rw[H.block b (by simp;omega) (λae=>by have:=ai b ae;omega) (by simp[obS,Value.ownBlock];omega),zm _ _ (by omega)];exact i.out.block b O
     ·simp only[];rw[if_neg L];exact⟨S (c,m),λ_=>D,by simp,u,v,rfl,Zn h1.row (by omega)⟩)
    have av:(0:Int)<h.length:=by omega
    have au:l<d.heap.size:=by omega
    simp only[List.length_singleton,Int.natCast_zero,Int.natCast_one]at W X;generalize h[0].2=bd at *;clear V j A R a8 q a6 d1 a5 hf ab a9 a7 ak;go_wp2_with fail;refine(W.out.mono (λG F Z=>X.out G F Z)).mono ?_;rintro _ F⟨u,n2,v,rfl,ad⟩;clear W X;simp only[];go_wp2_with fail;go_ret2;exact ad.out
end
end Go.Proofs.YtiganlkabilblaaGreatDoor
