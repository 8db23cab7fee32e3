import Derived.Test.YtiganlkabilblaaGreatDoorVL34
import Derived.Test.YtiganlkabilblaaGreatDoorVL33
import Derived.Test.YtiganlkabilblaaGreatDoorVL36
import Derived.Deep.RegionHeldLaw
import Derived.Deep.RegionLaw
import Derived.Deep.DrawnRows
import Derived.Deep.AppendLies
import Derived.Deep.CutRange
set_option linter.all false
set_option maxHeartbeats 64000000
set_option maxRecDepth 100000
namespace Go.Proofs.YtiganlkabilblaaGreatDoor
open Thk
abbrev St1:=Z5 × Bool × Nat
def GmC (x:List UInt8) (s:St1):Prop:=Px x s.2.2 s.1∧Gt s.1 s.2.1∧plC s.1∧s.1≠[]∧dpC s.1≤s.2.2∧(prC s.1).length≤2 * x.length
def Gm (m:Md) (s:St1):Prop:=m.2.1=s.2.1∧m.2.2=s.2.2∧GmC m.1 s
def atC:List St1:=[([[.mk 0 (.lit [97]) 0]],false,0),([[.mk 0 (.lit [98]) 0]],false,0),([[.mk 0 (.lit [97,98]) 0]],false,0),([[.mk 0 (.cls [(97,99)]) 0]],false,0),([[.mk 0 .any 0]],false,0),([[.mk 0 (.name zbT) 0]],false,0),([[.mk 0 (.name zbU) 0]],false,0),([[.mk 0 (.cls [(48,57),(45,45),(120,120)]) 0]],false,0),([[.mk 0 (.lit [39]) 0]],false,0),([[.mk 0 (.group [[]]) 0]],true,1)]
def atD:St1:=([[.mk 0 (.lit [97]) 0]],false,0)
def znt (q m:St1) (ch:Bool):St1:=(if ch then [[.mk 0 (.group q.1) 0],[.mk 0 (.group m.1) 0]] else [[.mk 0 (.group q.1) 0,.mk 0 (.group m.1) 0]],if ch then q.2.1 || m.2.1 else q.2.1 && m.2.1,max (q.2.2+1) (m.2.2+1))
def znR (m:St1) (j:Nat):St1:=([[.mk (sgT j m.2.1).1 (.group m.1) (sgT j m.2.1).2]],(sgT j m.2.1).2 != 43,m.2.2+1)
def zni (V:Nat):List St1→List St1
 | m::q::r=>if V % 4=0∧m.2.2<4∧q.2.2<4 then znt q m (decide (V / 4 % 2=0))::r else if V % 4=1∧m.2.2<4 then znR m (V / 4 % 5)::q::r else atC.getD (V / 4 % 10) atD::m::q::r
 | [m]=>if V % 4=1∧m.2.2<4 then [znR m (V / 4 % 5)] else [atC.getD (V / 4 % 10) atD,m]
 | []=>[]
def znm (R:Nat→Int):Nat→List St1
 | 0=>[atD]
 | k+1=>zni (YY (R k) 1099511627776) (znm R k)
def znl (P:Md→St1→Prop):List Md→List St1→Prop
 | [],[]=>True
 | a::l,b::r=>P a b∧znl P l r
 | _,_=>False
theorem znx {x:List UInt8} {t:Tok} {p:zC} (h:∀ tail,ZQ tail=0→blk false (x++tail)=0∧zM (x++tail)=t) (hl:t.kind.last=false) (hs:t.size=x.length) (hp:zU t=some p)
  (hx:prP p true=x) (hx2:prP p false=x) (hq:p = .name zbT∨p = .name zbU∨(∃ b,p = .lit b)∨(∃ b,p = .cls b)∨p = .any):GmC x ([[.mk 0 p 0]],false,0):=by
 refine⟨zkO h hl hs hp,⟨?_,?_⟩,?_,by simp,?_,?_⟩
 ·rcases hq with rfl | rfl | ⟨b,rfl⟩ | ⟨b,rfl⟩ | rfl<;>simp[zx,Zc,ZG,Zi,zv,Term.piece]
 ·intro E h1 h2
  rcases hq with rfl | rfl | ⟨b,rfl⟩ | ⟨b,rfl⟩ | rfl<;>simp[Zl,ZH,Zu,Ze,zx,Zc,ZG,Zi,zJ,Term.piece,Term.behind,ZC,Q2,JR,Zy,h1,h2]
 ·have ha:znL p:=⟨t,by rw[hx];exact h,hl,by rw[hx];exact hs,hp,by rw[hx,hx2],by rcases hq with rfl | rfl | ⟨b,rfl⟩ | ⟨b,rfl⟩ | rfl<;>rfl,by rcases hq with rfl | rfl | ⟨b,rfl⟩ | ⟨b,rfl⟩ | rfl<;>rfl⟩
  have hpp:plP p:=by rcases hq with rfl | rfl | ⟨b,rfl⟩ | ⟨b,rfl⟩ | rfl<;>exact ha
  exact⟨⟨⟨.inl rfl,.inl rfl,hpp⟩,trivial⟩,trivial⟩
 ·rcases hq with rfl | rfl | ⟨b,rfl⟩ | ⟨b,rfl⟩ | rfl<;>simp[dpC,dpQ,dpT,dpS,dpP]
 ·have:prC [[.mk 0 p 0]]=x:=by
   have h1:prC [[.mk 0 p 0]]=prT (.mk 0 p 0):=by simp[prC,znd,prS]
   rw[h1,znk,hx2]
  show (prC [[.mk 0 p 0]]).length≤_
  rw[this];omega
theorem zof (a:UInt8) (h1:a≠92) (h2:a≠10) (h3:a≠39) (h4:a≠9):GmC [39,a,39] ([[.mk 0 (.lit [a]) 0]],false,0):=by
 refine znx (t:=⟨.lit,0,3,[a],[]⟩) (p:=.lit [a]) ?_ rfl rfl rfl ?_ ?_ (.inr (.inr (.inl ⟨_,rfl⟩)))
 ·intro tail _
  refine⟨qo _ _ (by decide) (by decide),?_⟩
  simp[zM,Qu,Qv,Qc,Yk,Zh,ZX,h1,h2,h3]
 ·simp[prP,znr,znf,h1,h2,h3,h4]
 ·simp[prP,znr,znf,h1,h2,h3,h4]
theorem znO (j:Nat) (hj:j<10) {e:Bool} {d:Nat} (hq:((zO.getD j [] == [40,41])=true∧e=true∧d=1)∨((zO.getD j [] == [40,41])=false∧e=false∧d=0)):Gm (zO.getD j [],e,d) (atC.getD j atD):=by
 have:j=0∨j=1∨j=2∨j=3∨j=4∨j=5∨j=6∨j=7∨j=8∨j=9:=by omega
 rcases this with rfl | rfl | rfl | rfl | rfl | rfl | rfl | rfl | rfl | rfl
 all_goals rcases hq with ⟨h9,rfl,rfl⟩ | ⟨h9,rfl,rfl⟩
 all_goals first | (exact absurd h9 (by decide)) | refine⟨rfl,rfl,?_⟩
 ·exact zof 97 (by decide) (by decide) (by decide) (by decide)
 ·exact zof 98 (by decide) (by decide) (by decide) (by decide)
 ·refine znx (t:=⟨.lit,0,4,[97,98],[]⟩) (p:=.lit [97,98]) ?_ rfl rfl rfl (by simp[zO,prP,znr,znf]) (by simp[zO,prP,znr,znf]) (.inr (.inr (.inl ⟨_,rfl⟩)))
  intro tail _
  refine⟨qo _ _ (by decide) (by decide),?_⟩
  simp[zO,zM,Qu,Qv,Qc,Yk,Zh,ZX]
 ·refine znx (t:=⟨.cls,0,5,[],[(97,99)]⟩) (p:=.cls [(97,99)]) ?_ rfl rfl rfl (by simp[zO,prP,znv,zng,znf]) (by simp[zO,prP,znv,zng,znf]) (.inr (.inr (.inr (.inl ⟨_,rfl⟩))))
  intro tail _
  refine⟨qo _ _ (by decide) (by decide),?_⟩
  simp[zO,zM,Qu,QB,QL,Yo,ZT,Zh,ZX]
 ·refine znx (t:=⟨.sign 46,0,1,[],[]⟩) (p:=.any) ?_ rfl rfl rfl (by simp[zO,prP]) (by simp[zO,prP]) (.inr (.inr (.inr (.inr rfl))))
  intro tail _
  exact⟨qo _ _ (by decide) (by decide),by simp[zO,zM,Qu,Qf]⟩
 ·refine znx (t:=⟨.name,0,3,zbT,[]⟩) (p:=.name zbT) ?_ rfl rfl rfl (by simp[zO,prP]) (by simp[zO,prP]) (.inl rfl)
  intro tail ht
  refine⟨qo _ _ (by decide) (by decide),?_⟩
  simp[zO,zM,Qu,Ql,ZQ,ht]
 ·refine znx (t:=⟨.name,0,4,zbU,[]⟩) (p:=.name zbU) ?_ rfl rfl rfl (by simp[zO,prP]) (by simp[zO,prP]) (.inr (.inl rfl))
  intro tail ht
  refine⟨qo _ _ (by decide) (by decide),?_⟩
  simp[zO,zM,Qu,Ql,ZQ,ht]
 ·refine znx (t:=⟨.cls,0,8,[],[(48,57),(45,45),(120,120)]⟩) (p:=.cls [(48,57),(45,45),(120,120)]) ?_ rfl rfl rfl (by simp[zO,prP,znv,zng,znf]) (by simp[zO,prP,znv,zng,znf]) (.inr (.inr (.inr (.inl ⟨_,rfl⟩))))
  intro tail _
  refine⟨qo _ _ (by decide) (by decide),?_⟩
  simp[zO,zM,Qu,QB,QL,Yo,ZT,Zh,YP,ZX]
 ·refine znx (t:=⟨.lit,0,4,[39],[]⟩) (p:=.lit [39]) ?_ rfl rfl rfl (by simp[zO,prP,znr,znf]) (by simp[zO,prP,znr,znf]) (.inr (.inr (.inl ⟨_,rfl⟩)))
  intro tail _
  refine⟨qo _ _ (by decide) (by decide),?_⟩
  simp[zO,zM,Qu,Qv,Qc,Yk,Zh,YP,ZX]
 ·refine⟨zkL (b:=[]) (by simp[z4]) zkM,⟨by simp[atC,zx,Zc,ZG,Zi,zv,Term.piece],?_⟩,?_,by simp[atC],by simp[atC,dpC,dpQ,dpT,dpS,dpP],by simp[atC,prC,znd,prS,prT,prP,zne,zO]⟩
  ·intro E _ _
   simp[atC,Zl,ZH,Zu,Ze,zx,Zc,ZG,Zi,zJ,Term.piece,Term.behind,ZC,Q2,JR,Zy]
  ·exact⟨⟨⟨.inl rfl,.inl rfl,by simp,trivial,trivial⟩,trivial⟩,trivial⟩
theorem zoc {c:Z5}:dpP (.group c)≤dpC c+1:=by
 rcases znq c with rfl | ⟨a,p,b,rfl⟩ | hw
 ·simp[dpP]
 ·rw[zoH];simp[dpC,dpQ,dpT,dpS]
 ·rw[zoI hw];exact Nat.le_refl _
theorem zp1:∀ p:zC,(prP p true).length≤(prP p false).length+2
 | .name b=>by simp[prP]
 | .lit b=>by simp[prP]
 | .cls l=>by simp[prP]
 | .any=>by simp[prP]
 | .group c=>by
  rcases znq c with rfl | ⟨a,p,b,rfl⟩ | hw
  ·simp[prP]
  ·have hp:=zp1 p
   rw[zno,zno]
   by_cases h:a=0∧b=0
   ·rw[if_pos h,if_pos h]
    exact hp
   ·rw[if_neg h,if_neg h]
    simp
  ·rw[zns hw,zns hw]
   omega
theorem zol (c:Z5) (sg:Bool):(prP (.group c) sg).length≤(prC c).length+2:=by
 rcases znq c with rfl | ⟨a,p,b,rfl⟩ | hw
 ·simp[prP,prC,znd]
 ·have h2:prC [[.mk a p b]]=prT (.mk a p b):=by simp[prC,znd,prS]
  rw[zno,h2]
  by_cases h:a=0∧b=0
  ·obtain⟨rfl,rfl⟩:=h
   rw[if_pos ⟨rfl,rfl⟩,znk]
   cases sg with
   | true=>exact zp1 p
   | false=>omega
  ·rw[if_neg h]
   cases sg<;>simp
 ·rw[zns hw];simp
theorem zok {c:Z5} (h:plC c) (hn:c≠[]) {a b:UInt8} (ha:a=0∨a=38∨a=33) (hb:b=0∨b=63∨b=42∨b=43):plT (.mk a (.group c) b):=⟨ha,hb,hn,h⟩
theorem zpI {q m:Md} {s1 s2:St1} (hq:Gm q s1) (hm:Gm m s2) (ch:Bool) {b b':List UInt8} (hb:b ∈ z4) (hb':b' ∈ z4) :
  Gm (KT ch (brk b q.1) (brk b' m.1),if ch then q.2.1 || m.2.1 else q.2.1 && m.2.1,max (q.2.2+1) (m.2.2+1)) (znt s1 s2 ch):=by
 obtain⟨e1,e2,a1,a2,a3,a4,a5,a6⟩:=hq
 obtain⟨f1,f2,c1,c2,c3,c4,c5,c6⟩:=hm
 have d1:dpP (.group s1.1)≤s1.2.2+1:=Nat.le_trans zoc (by omega)
 have d2:dpP (.group s2.1)≤s2.2.2+1:=Nat.le_trans zoc (by omega)
 have p1:=zol s1.1 false
 have p2:=zol s2.1 false
 have g1:=zok (a:=0) (b:=0) a3 a4 (.inl rfl) (.inl rfl)
 have g2:=zok (a:=0) (b:=0) c3 c4 (.inl rfl) (.inl rfl)
 have l1:=zjN b q.1
 have l2:=zjN b' m.1
 refine⟨by rw[e1,f1];rfl,by rw[e2,f2];rfl,?_⟩
 cases ch with
 | true=>
  refine⟨zkN hb hb' a1 c1,zm0 a2 c2,⟨⟨g1,trivial⟩,⟨g2,trivial⟩,trivial⟩,by simp[znt],?_,?_⟩
  ·simp only[znt,if_true,dpC,dpQ,dpT,dpS];omega
  ·simp only[znt,if_true,prC,znd,prS,znk,KT,List.length_append,List.length_cons,List.length_nil]
   omega
 | false=>
  refine⟨zkJ hb hb' a1 c1,zlZ a2 c2,⟨⟨g1,g2,trivial⟩,trivial⟩,by simp[znt],?_,?_⟩
  ·simp only[znt,dpC,dpQ,dpT,dpS,Bool.false_eq_true,if_false];omega
  ·simp only[znt,prC,znd,prS,znk,KT,List.length_append,List.length_cons,List.length_nil,Bool.false_eq_true,if_false]
   omega
theorem zpH {m:Md} {s:St1} (hm:Gm m s) {b:List UInt8} (hb:b ∈ z4) (j:Nat) (hj:j<5):Gm (sgX (sgT j m.2.1) (brk b m.1),(sgT j m.2.1).2 != 43,m.2.2+1) (znR s j):=by
 obtain⟨e1,e2,a1,a2,a3,a4,a5,a6⟩:=hm
 rw[e1,e2]
 have d1:dpP (.group s.1)≤s.2.2+1:=Nat.le_trans zoc (by omega)
 have p1:=zol s.1 true
 have l1:=zjN b m.1
 have key:∀ a k:UInt8,sgT j s.2.1=(a,k)→(a=0∧(k=63∨k=42∨k=43)∨k=0∧(a=38∨a=33))→(s.2.1=true→k≠42∧k≠43)→((a != 0 || k == 63 || k == 42) || s.2.1)=(k != 43)→Gm (sgX (sgT j s.2.1) (brk b m.1),(sgT j s.2.1).2 != 43,s.2.2+1) (znR s j):=by
  intro a k hs hk hl he
  have hne:¬ (a=0∧k=0):=by rcases hk with ⟨rfl,rfl | rfl | rfl⟩ | ⟨rfl,rfl | rfl⟩<;>decide
  have hpr:prC [[.mk a (.group s.1) k]]=zne a++(prP (.group s.1) true++zne k):=by
   have h1:prC [[.mk a (.group s.1) k]]=prT (.mk a (.group s.1) k):=by simp[prC,znd,prS]
   rw[h1]
   simp only[prT]
   rw[zo3 hne]
  refine⟨rfl,rfl,?_⟩
  unfold znR
  rw[hs]
  have hT:Gt [[.mk a (.group s.1) k]] (k != 43):=by
   have:=zb a k a2 hl
   rw[he] at this
   exact this
  have hpl:plC [[.mk a (.group s.1) k]]:=⟨⟨zok a3 a4 (by rcases hk with ⟨rfl,_⟩ | ⟨_,rfl | rfl⟩<;>simp) (by rcases hk with ⟨_,rfl | rfl | rfl⟩ | ⟨rfl,_⟩<;>simp),trivial⟩,trivial⟩
  rcases hk with ⟨rfl,hk⟩ | ⟨rfl,ha⟩
  ·have hx:sgX (0,k) (brk b m.1)=brk b m.1++[k]:=by simp[sgX]
   have hk0:k≠0:=by rcases hk with rfl | rfl | rfl<;>decide
   rw[hx]
   refine⟨zkK k hk hb a1,hT,hpl,by simp,?_,?_⟩
   ·simp only[dpC,dpQ,dpT,dpS];omega
   ·show (prC [[.mk 0 (.group s.1) k]]).length≤_
    rw[hpr]
    simp[zne,hk0]
    omega
  ·have ha0:a≠0:=by rcases ha with rfl | rfl<;>decide
   have hx:sgX (a,0) (brk b m.1)=a::brk b m.1:=by simp[sgX,ha0]
   rw[hx]
   refine⟨zkI a ha hb a1,hT,hpl,by simp,?_,?_⟩
   ·simp only[dpC,dpQ,dpT,dpS];omega
   ·show (prC [[.mk a (.group s.1) 0]]).length≤_
    rw[hpr]
    simp[zne,ha0]
    omega
 have h5:j=0∨j=1∨j=2∨j=3∨j=4:=by omega
 cases he:s.2.1 with
 | true=>
  rw[he] at key
  rcases h5 with rfl | rfl | rfl | rfl | rfl
  ·exact key 0 63 rfl (.inl ⟨rfl,.inl rfl⟩) (fun _=>by decide) rfl
  ·exact key 0 63 rfl (.inl ⟨rfl,.inl rfl⟩) (fun _=>by decide) rfl
  ·exact key 0 63 rfl (.inl ⟨rfl,.inl rfl⟩) (fun _=>by decide) rfl
  ·exact key 38 0 rfl (.inr ⟨rfl,.inl rfl⟩) (fun _=>by decide) rfl
  ·exact key 33 0 rfl (.inr ⟨rfl,.inr rfl⟩) (fun _=>by decide) rfl
 | false=>
  rw[he] at key
  rcases h5 with rfl | rfl | rfl | rfl | rfl
  ·exact key 0 63 rfl (.inl ⟨rfl,.inl rfl⟩) (fun h=>by cases h) rfl
  ·exact key 0 42 rfl (.inl ⟨rfl,.inr (.inl rfl)⟩) (fun h=>by cases h) rfl
  ·exact key 0 43 rfl (.inl ⟨rfl,.inr (.inr rfl)⟩) (fun h=>by cases h) rfl
  ·exact key 38 0 rfl (.inr ⟨rfl,.inl rfl⟩) (fun h=>by cases h) rfl
  ·exact key 33 0 rfl (.inr ⟨rfl,.inr rfl⟩) (fun h=>by cases h) rfl
end Go.Proofs.YtiganlkabilblaaGreatDoor
namespace Go.Proofs.YtiganlkabilblaaGreatDoor
open Go.RowKit Thk
def znM (w:World) (a:Option Addr) (len:Nat) (R:Nat→Int):Prop:=∀ k,k<len→∃ x c,a=some x∧(x.add k).block<w.heap.size∧w.cell? (x.add k)=some (.int .i64 c)∧i64 c∧c=R k
theorem Gm.gx {m:Md} {s:St1} (h:Gm m s):Gx m.1 m.2.1 m.2.2:=by
 obtain⟨e1,e2,h1,h2,_⟩:=h
 rw[e1,e2]
 exact⟨s.1,h1,h2⟩
theorem zos {ini:List Md} {m:Md} {st:List St1} (h:znl Gm (ini++[m]).reverse st):∃ s r,st=s::r∧Gm m s∧znl Gm ini.reverse r:=by
 rw[List.reverse_append,List.reverse_singleton,List.singleton_append] at h
 cases st with
 | nil=>exact h.elim
 | cons s r=>exact⟨s,r,rfl,h.1,h.2⟩
theorem znX {ini:List Md} {m:Md} {s:St1} {r:List St1} (hm:Gm m s) (h:znl Gm ini.reverse r):znl Gm (ini++[m]).reverse (s::r):=by
 rw[List.reverse_append,List.reverse_singleton,List.singleton_append]
 exact⟨hm,h⟩
theorem znS {V:Nat} {s:St1} {r:List St1} (h1:¬ (V % 4=1∧s.2.2<4)) (h0:∀ q r',r=q::r'→¬ (V % 4=0∧s.2.2<4∧q.2.2<4)):zni V (s::r)=atC.getD (V / 4 % 10) atD::s::r:=by
 cases r with
 | nil=>simp only[zni];rw[if_neg h1]
 | cons q r=>simp only[zni];rw[if_neg (h0 q r rfl),if_neg h1]
theorem zqn {V:Nat} {s:St1} {r:List St1} (h1:V % 4=1) (h2:s.2.2<4):zni V (s::r)=znR s (V / 4 % 5)::r:=by
 cases r with
 | nil=>simp only[zni];rw[if_pos ⟨h1,h2⟩]
 | cons q r=>simp only[zni];rw[if_neg (by omega),if_pos ⟨h1,h2⟩]
theorem zqo {V:Nat} {s q:St1} {r:List St1} (h1:V % 4=0) (h2:s.2.2<4) (h3:q.2.2<4):zni V (s::q::r)=znt q s (decide (V / 4 % 2=0))::r:=by
 simp only[zni];rw[if_pos ⟨h1,h2,h3⟩]
theorem zop {R:Nat→Int} {k V:Nat} {st st':List St1} (hS:znm R k=st) (hV:YY (R k) 1099511627776=V) (h:zni V st=st'):znm R (k+1)=st':=by
 simp only[znm]
 rw[hV,hS,h]
theorem znp {R:Nat→Int} {k V:Nat} {ini:List Md} {m md:Md} {s a:St1} {r:List St1} (hS:znm R k=s::r) (hV:YY (R k) 1099511627776=V) (h:zni V (s::r)=a::s::r) (hm:Gm m s) (ha:znl Gm ini.reverse r) (hn:Gm md a):znl Gm ((ini++[m])++[md]).reverse (znm R (k+1)):=by
 rw[zop hS hV h]
 exact znX hn (znX hm ha)
theorem zql {R:Nat→Int} {k V:Nat} {ini:List Md} {md:Md} {s a:St1} {r:List St1} (hS:znm R k=s::r) (hV:YY (R k) 1099511627776=V) (h:zni V (s::r)=a::r) (ha:znl Gm ini.reverse r) (hn:Gm md a):znl Gm (ini++[md]).reverse (znm R (k+1)):=by
 rw[zop hS hV h]
 exact znX hn ha
theorem zqm {R:Nat→Int} {k V:Nat} {ini:List Md} {md:Md} {s q a:St1} {r:List St1} (hS:znm R k=s::q::r) (hV:YY (R k) 1099511627776=V) (h:zni V (s::q::r)=a::r) (ha:znl Gm ini.reverse r) (hn:Gm md a):znl Gm (ini++[md]).reverse (znm R (k+1)):=by
 rw[zop hS hV h]
 exact znX hn ha
theorem zpS (V:Nat):YY ((V:Int) / 4) 5=V / 4 % 5:=by
 unfold YY
 rw[if_neg (by omega)]
 congr 1
theorem zqu (q m:Md) (s1 s2:St1) (ch:Bool) (style:Int) (hs:i64 style) (hq:Gm q s1) (hm:Gm m s2) (hq4:q.2.2<4) (hm4:m.2.2<4) (hql:q.1.length≤1000) (hml:m.1.length≤1000) :
  ∃ (t2:List UInt8) (e2:Bool) (d2:Nat),(∀ w,Calls Tryz.prog 52 #[.agg #[.string (bs q.1),.bool q.2.1,.int .i64 ↑q.2.2],.agg #[.string (bs m.1),.bool m.2.1,.int .i64 ↑m.2.2],.bool ch,.int .i64 style] w fun e w'=>e = .returned (.agg #[.string (bs t2),.bool e2,.int .i64 ↑d2])∧Below w.heap.size w w')∧Gm (t2,e2,d2) (znt s1 s2 ch)∧d2≤4∧t2.length≤q.1.length+m.1.length+29:=by
 refine⟨_,_,_,fun w=>zlx q.1 q.2.1 q.2.2 m.1 m.2.1 m.2.2 ch style w hs (by omega) (by omega) (by omega) (by omega),zpI hq hm ch (ql _) (ql _),by omega,?_⟩
 have h1:=zjT (ql style)
 have h2:=zjT (ql (style.tdiv 4))
 simp[KT,zjN];omega
theorem zqj (ab:UInt8 × UInt8) (x:List UInt8):(sgX ab x).length=x.length+1:=by
 unfold sgX
 split<;>simp
def zpl (R:Nat→Int) (len:Nat) (w:World) (e:Ending) (w':World):Prop:=∃ m:Md,e = .returned (mdV m.1 m.2.1 m.2.2)∧(∃ s r,znm R (min len 24)=s::r∧Gm m s)∧m.2.2≤4∧m.1.length≤700∧Below w.heap.size w w'
theorem zoM (w:World) (a:Option Addr) (len cap:Nat) (style:Int) (R:Nat→Int) (hr:znM w a len R) (hl:len≤maxLen) (hs:i64 style) :
  Calls Tryz.prog 23 #[.slice a len cap,.int .i64 style] w fun e w'=>zpl R len w e w':=by
 obtain⟨i0,hi,hz0,hz1,hz2⟩:=info_parts Tryz.infoMade
 have HR:Hid (znM w a len R):=hr
 have HS:Hid (i64 style):=hs
 clear hr hs
 have hlm:(len:Int)≤9223372036854775807:=by unfold maxLen at hl;omega
 go_enter Tryz.func23,Tryz.ntmps23
 go_wp2_with fail
 go_loopw [5,6] (fun v i wr=>∃ (k:Nat) (ms:List Md),i = .int .i64 k∧zL w k ms v wr∧(k≤len∧Hid (znl Gm ms.reverse (znm R k)))) (fun _ i _=>24 - (intOf i).toNat)
 case atStart=>
  refine⟨0,[([39,97,39],false,0)],rfl,⟨⟨rfl,.inr ⟨w.heap.size+1,1,_,rfl,Nat.le_refl _,qb _ _ _ (by simp),Nat.le_refl _,by decide,rfl,rfl⟩⟩,(zc w _).alloc (by simp) _,?_,by simp,by simp,by simp,by omega,?_,by simp[tot]⟩,by omega,zjV ⟨⟨rfl,rfl,zof 97 (by decide) (by decide) (by decide) (by decide)⟩,trivial⟩⟩
  ·rw[zm _ _ (by simp)];exact zk _ _
  ·intro m hm
   simp at hm;subst hm
   exact⟨zki 0 (by decide),by decide⟩
 case round=>
  obtain⟨k,ms,rfl,hR,hklen,HST⟩:=hrel
  have htop:=hR.top
  have hsz:=hR.size
  have hres:=z8 hR.res
  have hfr:=zi hR.res
  have hlt0:w.heap.size<wr.heap.size:=by omega
  obtain⟨ini,m,g,cp,rfl,rfl,hgl,hgw,c0,c1,c2,cf⟩:=hR.last
  have hcnt:=hR.cnt
  rw[List.length_append,List.length_singleton] at hcnt
  have HRR:Hid (zL w k (ini++[m]) (.slice (some ⟨g,0,none⟩) (ini.length+1) cp) wr):=hR
  clear hR
  obtain⟨s1,r1,hst1,hgm1,har1⟩:=zos HST.out
  have HS1:=zjV hst1
  have HG1:=zjV hgm1
  have HA1:=zjV har1
  clear hst1 hgm1 har1 HST
  by_cases hkl:k<len
  ·by_cases hk24:k<24
   ·obtain⟨x,c,rfl,hxb,hxc,hci,hcR⟩:=HR.out k hkl
    have hcell:wr.cell? (x.add k)=some (.int .i64 c):=(HRR.out.below.cell hxb).trans hxc
    have hp:=fun w=>zk7 c 1099511627776 w hci (by decide) (by decide)
    have hV0:=zh9 c (n:=1099511627776) (by decide)
    obtain⟨V,hV⟩:∃ V,V=YY c 1099511627776:=⟨_,rfl⟩
    rw[← hV] at hp hV0
    have HV:Hid (YY (R k) 1099511627776=V):=by rw[← hcR];exact hV.symm
    clear hV hxc hci hxb hcR
    have h4:V % 4<4:=Nat.mod_lt _ (by decide)
    by_cases hc2 : 2≤V % 4
    ·have hka:=zjW
     have HSTP:Hid (zni V (s1::r1)=atC.getD (V / 4 % 10) atD::s1::r1):=zjV (znS (by have:=HG1.out.2.1;omega) (fun q' r' hr'=>by
      have:=HG1.out.2.1
      first
       | omega
       | (have h9:=HA1.out;rw[hr'] at h9;exact h9.elim)
       | (have h9:=HA1.out;rw[hr',List.reverse_append,List.reverse_singleton,List.singleton_append] at h9;have:=h9.1.2.1;omega)))
     have hj:V / 4 % 10<10:=Nat.mod_lt _ (by decide)
     go_wp2_with (first | (go_at_call 32;refine (hp _).mono ?_;rintro _ w' ⟨rfl,hw⟩;replace hw:=hw.symm;subst hw))
     refine (hka _).mono ?_
     rintro _ w2 ⟨rfl,hb2,hs2,hat⟩
     have hown1:=Zv (HRR.out.own.alloc (mdO m.1 m.2.1 m.2.2)) hb2
     rw[List.length_append,List.length_singleton] at hown1
     have hat1:=hat _ hj
     simp only[World.size_alloc] at hat1 hs2
     obtain⟨e0,d0,hG0,hd0,hl0,hq0⟩:=zjS _ hj
     have hGA:=znO _ hj hq0
     generalize zO.getD (V / 4 % 10) []=T at hat1 hG0 hl0 hq0 hGA
     have HGA:=zjV hGA
     clear hGA
     have HG0:=(show Hid (Gx T e0 d0) from hG0)
     have HBW:Hid (∀ O1 O2,Below wr.heap.size wr ((w2.alloc O1).alloc O2)):=fun O1 O2=>(((zc wr _).trans (hb2.mono (by simp))).alloc (by omega) _).alloc (by simp;omega) _
     clear hat hb2 hka hG0
     rcases hq0 with ⟨hTe,rfl,rfl⟩ | ⟨hTe,rfl,rfl⟩
     ·go_wp2_with (first | (at_builtin;refine wpList_append_lies _ rfl _ _ 101 rfl (w.heap.size+1) 43 i0 _ 3 32 Tryz.underlying101 hi hz0 hz1 hz2 rfl (by decide) _ _ _ rfl ((hown1.alloc _).alloc _) ⟨w2.heap.size+1,0,none⟩ 1 1 (mdC (T,true,1)) rfl rfl ?c1 (qf _) (by decide) ?c3 ?c4 ?c5 (w2.heap.size+2) (by simp) ?_))
      case c1=>exact World.news_of_block (qb _ _ _ (by simp))
      case c3=>unfold maxLen;(try simp only[List.length_nil,List.length_append,List.length_singleton]);omega
      case c4=>(try simp only[List.length_nil,List.length_append,List.length_singleton]);omega
      case c5=>simp;omega
      intro g3 cp3 w3 hown3 hgrow3 hat3 hlt3
      have hN:=HRR.out.push hk24 (HBW.out _ _) (m:=(T,true,1)) (by simpa using hown3) hgrow3 HG0.out hd0 hl0
      clear hown1 hown3 hgrow3 hat3
      go_wp2
      go_roundw
      case rel=>exact⟨k+1,_,by go_num,hN,by omega,zjV (znp HS1.out HV.out HSTP.out HG1.out HA1.out HGA.out)⟩
      case measure=>simp[intOf];omega
     ·go_wp2_with (first | (at_builtin;refine wpList_append_lies _ rfl _ _ 101 rfl (w.heap.size+1) 43 i0 _ 3 32 Tryz.underlying101 hi hz0 hz1 hz2 rfl (by decide) _ _ _ rfl ((hown1.alloc _).alloc _) ⟨w2.heap.size+1,0,none⟩ 1 1 (mdC (T,false,0)) rfl rfl ?c1 (qf _) (by decide) ?c3 ?c4 ?c5 (w2.heap.size+2) (by simp) ?_))
      case c1=>exact World.news_of_block (qb _ _ _ (by simp))
      case c3=>unfold maxLen;(try simp only[List.length_nil,List.length_append,List.length_singleton]);omega
      case c4=>(try simp only[List.length_nil,List.length_append,List.length_singleton]);omega
      case c5=>simp;omega
      intro g3 cp3 w3 hown3 hgrow3 hat3 hlt3
      have hN:=HRR.out.push hk24 (HBW.out _ _) (m:=(T,false,0)) (by simpa using hown3) hgrow3 HG0.out hd0 hl0
      clear hown1 hown3 hgrow3 hat3
      go_wp2
      go_roundw
      case rel=>exact⟨k+1,_,by go_num,hN,by omega,zjV (znp HS1.out HV.out HSTP.out HG1.out HA1.out HGA.out)⟩
      case measure=>simp[intOf];omega
    ·by_cases hm4:m.2.2<4
     ·by_cases hv1:V % 4=1
      ·have hsg:=fun w=>zpK m.1 m.2.1 m.2.2 ((V:Int) / 4) style w (by constructor<;>omega) HS.out (by have:=HRR.out.tot;have:=zke (ms:=ini++[m]) (m:=m) (by simp);omega) (by omega)
       go_wp2_with (first | (go_at_call 32;refine (hp _).mono ?_;rintro _ w' ⟨rfl,hw⟩;replace hw:=hw.symm;subst hw))
       refine (hsg _).mono ?_
       rintro _ w2 ⟨t',e',rfl,hPo,hb2⟩
       have hop2:=Zv (HRR.out.own.alloc (mdO m.1 m.2.1 m.2.2)) hb2
       have cf2:=fun o=>(World.ownsRow.frozenAt (by simpa using hop2) o:w2.frozen? ⟨g,o,none⟩=false)
       have hbw:=(zc wr (mdO m.1 m.2.1 m.2.2)).trans (hb2.mono (by simp))
       have x0:=(hbw.cell (p:=⟨g,ini.length * 3,none⟩) hgw).trans c0
       have x1:=(hbw.cell (p:=⟨g,ini.length * 3+1,none⟩) hgw).trans c1
       have x2:=(hbw.cell (p:=⟨g,ini.length * 3+2,none⟩) hgw).trans c2
       have hs2:=hb2.size
       simp at hs2
       have n2:g<w2.heap.size:=by omega
       rw[zpS] at hPo
       obtain⟨ht',he'⟩:=hPo
       have hgs:=zpH HG1.out (ql style) (V / 4 % 5) (Nat.mod_lt _ (by decide))
       rw[← ht',← he'] at hgs
       have hG2:=hgs.gx
       have hL2:t'.length≤m.1.length+29:=by
        have h6:=zjT (ql style)
        rw[ht',zqj,zjN]
        omega
       have HSG:Hid (znl Gm (ini++[(t',e',m.2.2+1)]).reverse (znm R (k+1))):=zjV (zql HS1.out HV.out (zqn hv1 (by have:=HG1.out.2.1;omega)) HA1.out hgs)
       clear ht' he' hgs
       have hN:=HRR.out.setLast hk24 hbw (m':=(t',e',m.2.2+1)) hG2 (by simp;omega) hL2
       clear hsg hop2 hb2 hG2 hL2 hbw
       go_wp2
       go_roundw
       case rel=>exact⟨k+1,_,by go_num,hN,by omega,HSG⟩
       case measure=>simp[intOf];omega
      ·have hv0:V % 4=0:=by omega
       rcases zkt ini with rfl | ⟨ini',q,rfl⟩
       ·simp only[List.length_nil,Nat.zero_mul,Nat.zero_add] at c0 c1 c2 hcnt HRR ⊢
        have hka:=zjW
        have HSTP:Hid (zni V (s1::r1)=atC.getD (V / 4 % 10) atD::s1::r1):=zjV (znS (by have:=HG1.out.2.1;omega) (fun q' r' hr'=>by
         have:=HG1.out.2.1
         first
          | omega
          | (have h9:=HA1.out;rw[hr'] at h9;exact h9.elim)
          | (have h9:=HA1.out;rw[hr',List.reverse_append,List.reverse_singleton,List.singleton_append] at h9;have:=h9.1.2.1;omega)))
        have hj:V / 4 % 10<10:=Nat.mod_lt _ (by decide)
        go_wp2_with (first | (go_at_call 32;refine (hp _).mono ?_;rintro _ w' ⟨rfl,hw⟩;replace hw:=hw.symm;subst hw))
        refine (hka _).mono ?_
        rintro _ w2 ⟨rfl,hb2,hs2,hat⟩
        have hown1:=Zv (HRR.out.own.alloc (mdO m.1 m.2.1 m.2.2)) hb2
        rw[List.length_append,List.length_singleton] at hown1
        have hat1:=hat _ hj
        simp only[World.size_alloc] at hat1 hs2
        obtain⟨e0,d0,hG0,hd0,hl0,hq0⟩:=zjS _ hj
        have hGA:=znO _ hj hq0
        generalize zO.getD (V / 4 % 10) []=T at hat1 hG0 hl0 hq0 hGA
        have HGA:=zjV hGA
        clear hGA
        have HG0:=(show Hid (Gx T e0 d0) from hG0)
        have HBW:Hid (∀ O1 O2,Below wr.heap.size wr ((w2.alloc O1).alloc O2)):=fun O1 O2=>(((zc wr _).trans (hb2.mono (by simp))).alloc (by omega) _).alloc (by simp;omega) _
        clear hat hb2 hka hG0
        rcases hq0 with ⟨hTe,rfl,rfl⟩ | ⟨hTe,rfl,rfl⟩
        ·go_wp2_with (first | (at_builtin;refine wpList_append_lies _ rfl _ _ 101 rfl (w.heap.size+1) 43 i0 _ 3 32 Tryz.underlying101 hi hz0 hz1 hz2 rfl (by decide) _ _ _ rfl ((hown1.alloc _).alloc _) ⟨w2.heap.size+1,0,none⟩ 1 1 (mdC (T,true,1)) rfl rfl ?c1 (qf _) (by decide) ?c3 ?c4 ?c5 (w2.heap.size+2) (by simp) ?_))
         case c1=>exact World.news_of_block (qb _ _ _ (by simp))
         case c3=>unfold maxLen;(try simp only[List.length_nil,List.length_append,List.length_singleton]);omega
         case c4=>(try simp only[List.length_nil,List.length_append,List.length_singleton]);omega
         case c5=>simp;omega
         intro g3 cp3 w3 hown3 hgrow3 hat3 hlt3
         have hN:=HRR.out.push hk24 (HBW.out _ _) (m:=(T,true,1)) (by simpa using hown3) hgrow3 HG0.out hd0 hl0
         clear hown1 hown3 hgrow3 hat3
         go_wp2
         go_roundw
         case rel=>exact⟨k+1,_,by go_num,hN,by omega,zjV (znp HS1.out HV.out HSTP.out HG1.out HA1.out HGA.out)⟩
         case measure=>simp[intOf];omega
        ·go_wp2_with (first | (at_builtin;refine wpList_append_lies _ rfl _ _ 101 rfl (w.heap.size+1) 43 i0 _ 3 32 Tryz.underlying101 hi hz0 hz1 hz2 rfl (by decide) _ _ _ rfl ((hown1.alloc _).alloc _) ⟨w2.heap.size+1,0,none⟩ 1 1 (mdC (T,false,0)) rfl rfl ?c1 (qf _) (by decide) ?c3 ?c4 ?c5 (w2.heap.size+2) (by simp) ?_))
         case c1=>exact World.news_of_block (qb _ _ _ (by simp))
         case c3=>unfold maxLen;(try simp only[List.length_nil,List.length_append,List.length_singleton]);omega
         case c4=>(try simp only[List.length_nil,List.length_append,List.length_singleton]);omega
         case c5=>simp;omega
         intro g3 cp3 w3 hown3 hgrow3 hat3 hlt3
         have hN:=HRR.out.push hk24 (HBW.out _ _) (m:=(T,false,0)) (by simpa using hown3) hgrow3 HG0.out hd0 hl0
         clear hown1 hown3 hgrow3 hat3
         go_wp2
         go_roundw
         case rel=>exact⟨k+1,_,by go_num,hN,by omega,zjV (znp HS1.out HV.out HSTP.out HG1.out HA1.out HGA.out)⟩
         case measure=>simp[intOf];omega
       ·simp only[List.length_append,List.length_singleton] at c0 c1 c2 hcnt HRR ⊢
        obtain⟨p0,p1,p2⟩:=HRR.out.prev
        by_cases hq4:q.2.2<4
        ·have hms:=HRR.out.good m (by simp)
         have hqs:=HRR.out.good q (by simp)
         have htt:=HRR.out.tot
         rw[zjQ,zjQ,zjR,zjR] at htt
         obtain⟨s2,r2,hr12,hgq,har2⟩:=zos HA1.out
         have hch:((V:Int) / 4 % 2 == 0)=decide (V / 4 % 2=0):=by
          rw[Bool.eq_iff_iff];simp;omega
         obtain⟨t2,e2,d2,htw,hG2,hd2,hL2⟩:=zqu q m s2 s1 ((V:Int) / 4 % 2 == 0) style HS.out hgq HG1.out hq4 hm4 (by omega) (by omega)
         have HTT:Hid (znl Gm (ini'++[(t2,e2,d2)]).reverse (znm R (k+1))):=zjV (zqm (by rw[← hr12];exact HS1.out) HV.out (zqo hv0 (by have:=HG1.out.2.1;omega) (by have:=hgq.2.1;omega)) har2 (by rw[← hch];exact hG2))
         have HG2:=(show Hid (Gx t2 e2 d2) from hG2.gx)
         clear hr12 hgq har2 hch
         clear hms hqs hG2
         have hw0:IntKind.i64.wrap (ini'.length:Int)=(ini'.length:Int):=by
          unfold IntKind.wrap
          simp[IntKind.signed,IntKind.bits]
          omega
         have hw1:(ini'.length:Int)+1+1 - 2=(ini'.length:Int):=by omega
         have hw2:((ini'.length+1+1:Nat):Int) - 2=(ini'.length:Int):=by omega
         go_upto_region 13 with (first | (go_at_call 32;refine (hp _).mono ?_;rintro _ w' ⟨rfl,hw⟩;replace hw:=hw.symm;subst hw))
         have HTW:=zjV htw
         clear htw
         go_cut [9] from 14 to 114 (fun p9 wx=>∃ b,p9 = .pointer (some ⟨b,0,none⟩)∧zk9 wr wx b t2 e2 d2)
         case first=>
          go_region_with (first | (go_at_call 52;refine (HTW.out _).mono ?_;rintro _ w2 ⟨rfl,hb2⟩;have y1:=fun p h=>hb2.cell (p:=p) h;have y2:=fun p h=>hb2.frozen (p:=p) h;have y3:=hb2.size;have HB2:=zjV hb2;clear hb2))
          all_goals (try go_wp2_with fail)
          all_goals go_meet
          all_goals first | exact⟨_,rfl,zkW HB2.out⟩ | exact⟨_,rfl,zkX HB2.out⟩
         case rest=>
          obtain⟨b,rfl,hC⟩:=hcut
          have z0:=z8 hC.blk
          have hbl:b<wc.heap.size:=zd hC.blk
          have hown:=HRR.out.popTwo hC.below
          have HOWN:=zjV hown
          have HCB:=zjV hC.below
          have hsw:=hC.below.size
          have hnb:((wc.alloc (.cells #[.string (bs t2),.bool e2,.int .i64 ↑d2] 43)).drew).heap[wc.heap.size]? = some (.cells #[.string (bs t2),.bool e2,.int .i64 ↑d2] 43 (0,0)):=zk _ _
          have HNB:=zjV hnb
          have HM:Hid (ini'.length+1≤maxLen):=by show _≤_;unfold maxLen;omega
          have hcp:=HRR.out.cap
          have hcp1:ini'.length≤cp:=by omega
          have hcp2:(ini'.length:Int)≤(cp:Int):=by omega
          clear hC hown hnb p0 p1 p2 c0 c1 c2 hp
          go_wp2_with fail
          go_region_law ((refine step_append_lies _ (by rfl) _ _ _ (by rfl) (w.heap.size+1) 43 i0 _ 3 32 Tryz.underlying101 hi hz0 hz1 hz2 (by rfl) (by decide) _ _ _ (by rfl) (HOWN.out.alloc _) ⟨wc.heap.size,0,none⟩ 1 1 (mdC (t2,e2,d2)) (by rfl) (by rfl) (World.news_of_block HNB.out) (qf _) (by decide) HM.out (by omega) (by simp;omega) (wc.heap.size+1) (by simp) ?_;intro g3 cp3 w3 hown3 hgrow3 hat3 hlt3;have hN:=HRR.out.pushTwo hk24 ((HCB.out.alloc hsw _).drew) (m':=(t2,e2,d2)) hown3 hgrow3 HG2.out hd2 hL2;have HN:=zjV hN;clear hN hown3 hgrow3 hat3))
          all_goals go_wp2
          all_goals go_roundw
          case rel=>exact⟨k+1,_,by go_num,HN.out,by omega,HTT⟩
          case measure=>simp[intOf];omega
        ·have hka:=zjW
         have HSTP:Hid (zni V (s1::r1)=atC.getD (V / 4 % 10) atD::s1::r1):=zjV (znS (by have:=HG1.out.2.1;omega) (fun q' r' hr'=>by
          have:=HG1.out.2.1
          first
           | omega
           | (have h9:=HA1.out;rw[hr'] at h9;exact h9.elim)
           | (have h9:=HA1.out;rw[hr',List.reverse_append,List.reverse_singleton,List.singleton_append] at h9;have:=h9.1.2.1;omega)))
         have hj:V / 4 % 10<10:=Nat.mod_lt _ (by decide)
         go_wp2_with (first | (go_at_call 32;refine (hp _).mono ?_;rintro _ w' ⟨rfl,hw⟩;replace hw:=hw.symm;subst hw))
         refine (hka _).mono ?_
         rintro _ w2 ⟨rfl,hb2,hs2,hat⟩
         have hown1:=Zv (HRR.out.own.alloc (mdO m.1 m.2.1 m.2.2)) hb2
         rw[List.length_append,List.length_singleton] at hown1
         have hat1:=hat _ hj
         simp only[World.size_alloc] at hat1 hs2
         obtain⟨e0,d0,hG0,hd0,hl0,hq0⟩:=zjS _ hj
         have hGA:=znO _ hj hq0
         generalize zO.getD (V / 4 % 10) []=T at hat1 hG0 hl0 hq0 hGA
         have HGA:=zjV hGA
         clear hGA
         have HG0:=(show Hid (Gx T e0 d0) from hG0)
         have HBW:Hid (∀ O1 O2,Below wr.heap.size wr ((w2.alloc O1).alloc O2)):=fun O1 O2=>(((zc wr _).trans (hb2.mono (by simp))).alloc (by omega) _).alloc (by simp;omega) _
         clear hat hb2 hka hG0
         rcases hq0 with ⟨hTe,rfl,rfl⟩ | ⟨hTe,rfl,rfl⟩
         ·go_wp2_with (first | (at_builtin;refine wpList_append_lies _ rfl _ _ 101 rfl (w.heap.size+1) 43 i0 _ 3 32 Tryz.underlying101 hi hz0 hz1 hz2 rfl (by decide) _ _ _ rfl ((hown1.alloc _).alloc _) ⟨w2.heap.size+1,0,none⟩ 1 1 (mdC (T,true,1)) rfl rfl ?c1 (qf _) (by decide) ?c3 ?c4 ?c5 (w2.heap.size+2) (by simp) ?_))
          case c1=>exact World.news_of_block (qb _ _ _ (by simp))
          case c3=>unfold maxLen;(try simp only[List.length_nil,List.length_append,List.length_singleton]);omega
          case c4=>(try simp only[List.length_nil,List.length_append,List.length_singleton]);omega
          case c5=>simp;omega
          intro g3 cp3 w3 hown3 hgrow3 hat3 hlt3
          have hN:=HRR.out.push hk24 (HBW.out _ _) (m:=(T,true,1)) (by simpa using hown3) hgrow3 HG0.out hd0 hl0
          clear hown1 hown3 hgrow3 hat3
          go_wp2
          go_roundw
          case rel=>exact⟨k+1,_,by go_num,hN,by omega,zjV (znp HS1.out HV.out HSTP.out HG1.out HA1.out HGA.out)⟩
          case measure=>simp[intOf];omega
         ·go_wp2_with (first | (at_builtin;refine wpList_append_lies _ rfl _ _ 101 rfl (w.heap.size+1) 43 i0 _ 3 32 Tryz.underlying101 hi hz0 hz1 hz2 rfl (by decide) _ _ _ rfl ((hown1.alloc _).alloc _) ⟨w2.heap.size+1,0,none⟩ 1 1 (mdC (T,false,0)) rfl rfl ?c1 (qf _) (by decide) ?c3 ?c4 ?c5 (w2.heap.size+2) (by simp) ?_))
          case c1=>exact World.news_of_block (qb _ _ _ (by simp))
          case c3=>unfold maxLen;(try simp only[List.length_nil,List.length_append,List.length_singleton]);omega
          case c4=>(try simp only[List.length_nil,List.length_append,List.length_singleton]);omega
          case c5=>simp;omega
          intro g3 cp3 w3 hown3 hgrow3 hat3 hlt3
          have hN:=HRR.out.push hk24 (HBW.out _ _) (m:=(T,false,0)) (by simpa using hown3) hgrow3 HG0.out hd0 hl0
          clear hown1 hown3 hgrow3 hat3
          go_wp2
          go_roundw
          case rel=>exact⟨k+1,_,by go_num,hN,by omega,zjV (znp HS1.out HV.out HSTP.out HG1.out HA1.out HGA.out)⟩
          case measure=>simp[intOf];omega
     ·by_cases hv1:V % 4=1
      ·have hka:=zjW
       have HSTP:Hid (zni V (s1::r1)=atC.getD (V / 4 % 10) atD::s1::r1):=zjV (znS (by have:=HG1.out.2.1;omega) (fun q' r' hr'=>by
        have:=HG1.out.2.1
        first
         | omega
         | (have h9:=HA1.out;rw[hr'] at h9;exact h9.elim)
         | (have h9:=HA1.out;rw[hr',List.reverse_append,List.reverse_singleton,List.singleton_append] at h9;have:=h9.1.2.1;omega)))
       have hj:V / 4 % 10<10:=Nat.mod_lt _ (by decide)
       go_wp2_with (first | (go_at_call 32;refine (hp _).mono ?_;rintro _ w' ⟨rfl,hw⟩;replace hw:=hw.symm;subst hw))
       refine (hka _).mono ?_
       rintro _ w2 ⟨rfl,hb2,hs2,hat⟩
       have hown1:=Zv (HRR.out.own.alloc (mdO m.1 m.2.1 m.2.2)) hb2
       rw[List.length_append,List.length_singleton] at hown1
       have hat1:=hat _ hj
       simp only[World.size_alloc] at hat1 hs2
       obtain⟨e0,d0,hG0,hd0,hl0,hq0⟩:=zjS _ hj
       have hGA:=znO _ hj hq0
       generalize zO.getD (V / 4 % 10) []=T at hat1 hG0 hl0 hq0 hGA
       have HGA:=zjV hGA
       clear hGA
       have HG0:=(show Hid (Gx T e0 d0) from hG0)
       have HBW:Hid (∀ O1 O2,Below wr.heap.size wr ((w2.alloc O1).alloc O2)):=fun O1 O2=>(((zc wr _).trans (hb2.mono (by simp))).alloc (by omega) _).alloc (by simp;omega) _
       clear hat hb2 hka hG0
       rcases hq0 with ⟨hTe,rfl,rfl⟩ | ⟨hTe,rfl,rfl⟩
       ·go_wp2_with (first | (at_builtin;refine wpList_append_lies _ rfl _ _ 101 rfl (w.heap.size+1) 43 i0 _ 3 32 Tryz.underlying101 hi hz0 hz1 hz2 rfl (by decide) _ _ _ rfl ((hown1.alloc _).alloc _) ⟨w2.heap.size+1,0,none⟩ 1 1 (mdC (T,true,1)) rfl rfl ?c1 (qf _) (by decide) ?c3 ?c4 ?c5 (w2.heap.size+2) (by simp) ?_))
        case c1=>exact World.news_of_block (qb _ _ _ (by simp))
        case c3=>unfold maxLen;(try simp only[List.length_nil,List.length_append,List.length_singleton]);omega
        case c4=>(try simp only[List.length_nil,List.length_append,List.length_singleton]);omega
        case c5=>simp;omega
        intro g3 cp3 w3 hown3 hgrow3 hat3 hlt3
        have hN:=HRR.out.push hk24 (HBW.out _ _) (m:=(T,true,1)) (by simpa using hown3) hgrow3 HG0.out hd0 hl0
        clear hown1 hown3 hgrow3 hat3
        go_wp2
        go_roundw
        case rel=>exact⟨k+1,_,by go_num,hN,by omega,zjV (znp HS1.out HV.out HSTP.out HG1.out HA1.out HGA.out)⟩
        case measure=>simp[intOf];omega
       ·go_wp2_with (first | (at_builtin;refine wpList_append_lies _ rfl _ _ 101 rfl (w.heap.size+1) 43 i0 _ 3 32 Tryz.underlying101 hi hz0 hz1 hz2 rfl (by decide) _ _ _ rfl ((hown1.alloc _).alloc _) ⟨w2.heap.size+1,0,none⟩ 1 1 (mdC (T,false,0)) rfl rfl ?c1 (qf _) (by decide) ?c3 ?c4 ?c5 (w2.heap.size+2) (by simp) ?_))
        case c1=>exact World.news_of_block (qb _ _ _ (by simp))
        case c3=>unfold maxLen;(try simp only[List.length_nil,List.length_append,List.length_singleton]);omega
        case c4=>(try simp only[List.length_nil,List.length_append,List.length_singleton]);omega
        case c5=>simp;omega
        intro g3 cp3 w3 hown3 hgrow3 hat3 hlt3
        have hN:=HRR.out.push hk24 (HBW.out _ _) (m:=(T,false,0)) (by simpa using hown3) hgrow3 HG0.out hd0 hl0
        clear hown1 hown3 hgrow3 hat3
        go_wp2
        go_roundw
        case rel=>exact⟨k+1,_,by go_num,hN,by omega,zjV (znp HS1.out HV.out HSTP.out HG1.out HA1.out HGA.out)⟩
        case measure=>simp[intOf];omega
      ·have hv0:V % 4=0:=by omega
       rcases zkt ini with rfl | ⟨ini',q,hiq⟩
       ·simp only[List.length_nil,Nat.zero_mul,Nat.zero_add] at c0 c1 c2 hcnt HRR ⊢
        have hka:=zjW
        have HSTP:Hid (zni V (s1::r1)=atC.getD (V / 4 % 10) atD::s1::r1):=zjV (znS (by have:=HG1.out.2.1;omega) (fun q' r' hr'=>by
         have:=HG1.out.2.1
         first
          | omega
          | (have h9:=HA1.out;rw[hr'] at h9;exact h9.elim)
          | (have h9:=HA1.out;rw[hr',List.reverse_append,List.reverse_singleton,List.singleton_append] at h9;have:=h9.1.2.1;omega)))
        have hj:V / 4 % 10<10:=Nat.mod_lt _ (by decide)
        go_wp2_with (first | (go_at_call 32;refine (hp _).mono ?_;rintro _ w' ⟨rfl,hw⟩;replace hw:=hw.symm;subst hw))
        refine (hka _).mono ?_
        rintro _ w2 ⟨rfl,hb2,hs2,hat⟩
        have hown1:=Zv (HRR.out.own.alloc (mdO m.1 m.2.1 m.2.2)) hb2
        rw[List.length_append,List.length_singleton] at hown1
        have hat1:=hat _ hj
        simp only[World.size_alloc] at hat1 hs2
        obtain⟨e0,d0,hG0,hd0,hl0,hq0⟩:=zjS _ hj
        have hGA:=znO _ hj hq0
        generalize zO.getD (V / 4 % 10) []=T at hat1 hG0 hl0 hq0 hGA
        have HGA:=zjV hGA
        clear hGA
        have HG0:=(show Hid (Gx T e0 d0) from hG0)
        have HBW:Hid (∀ O1 O2,Below wr.heap.size wr ((w2.alloc O1).alloc O2)):=fun O1 O2=>(((zc wr _).trans (hb2.mono (by simp))).alloc (by omega) _).alloc (by simp;omega) _
        clear hat hb2 hka hG0
        rcases hq0 with ⟨hTe,rfl,rfl⟩ | ⟨hTe,rfl,rfl⟩
        ·go_wp2_with (first | (at_builtin;refine wpList_append_lies _ rfl _ _ 101 rfl (w.heap.size+1) 43 i0 _ 3 32 Tryz.underlying101 hi hz0 hz1 hz2 rfl (by decide) _ _ _ rfl ((hown1.alloc _).alloc _) ⟨w2.heap.size+1,0,none⟩ 1 1 (mdC (T,true,1)) rfl rfl ?c1 (qf _) (by decide) ?c3 ?c4 ?c5 (w2.heap.size+2) (by simp) ?_))
         case c1=>exact World.news_of_block (qb _ _ _ (by simp))
         case c3=>unfold maxLen;(try simp only[List.length_nil,List.length_append,List.length_singleton]);omega
         case c4=>(try simp only[List.length_nil,List.length_append,List.length_singleton]);omega
         case c5=>simp;omega
         intro g3 cp3 w3 hown3 hgrow3 hat3 hlt3
         have hN:=HRR.out.push hk24 (HBW.out _ _) (m:=(T,true,1)) (by simpa using hown3) hgrow3 HG0.out hd0 hl0
         clear hown1 hown3 hgrow3 hat3
         go_wp2
         go_roundw
         case rel=>exact⟨k+1,_,by go_num,hN,by omega,zjV (znp HS1.out HV.out HSTP.out HG1.out HA1.out HGA.out)⟩
         case measure=>simp[intOf];omega
        ·go_wp2_with (first | (at_builtin;refine wpList_append_lies _ rfl _ _ 101 rfl (w.heap.size+1) 43 i0 _ 3 32 Tryz.underlying101 hi hz0 hz1 hz2 rfl (by decide) _ _ _ rfl ((hown1.alloc _).alloc _) ⟨w2.heap.size+1,0,none⟩ 1 1 (mdC (T,false,0)) rfl rfl ?c1 (qf _) (by decide) ?c3 ?c4 ?c5 (w2.heap.size+2) (by simp) ?_))
         case c1=>exact World.news_of_block (qb _ _ _ (by simp))
         case c3=>unfold maxLen;(try simp only[List.length_nil,List.length_append,List.length_singleton]);omega
         case c4=>(try simp only[List.length_nil,List.length_append,List.length_singleton]);omega
         case c5=>simp;omega
         intro g3 cp3 w3 hown3 hgrow3 hat3 hlt3
         have hN:=HRR.out.push hk24 (HBW.out _ _) (m:=(T,false,0)) (by simpa using hown3) hgrow3 HG0.out hd0 hl0
         clear hown1 hown3 hgrow3 hat3
         go_wp2
         go_roundw
         case rel=>exact⟨k+1,_,by go_num,hN,by omega,zjV (znp HS1.out HV.out HSTP.out HG1.out HA1.out HGA.out)⟩
         case measure=>simp[intOf];omega
       ·have hi1 : 1≤ini.length:=by rw[hiq];simp
        clear hiq
        have hka:=zjW
        have HSTP:Hid (zni V (s1::r1)=atC.getD (V / 4 % 10) atD::s1::r1):=zjV (znS (by have:=HG1.out.2.1;omega) (fun q' r' hr'=>by
         have:=HG1.out.2.1
         first
          | omega
          | (have h9:=HA1.out;rw[hr'] at h9;exact h9.elim)
          | (have h9:=HA1.out;rw[hr',List.reverse_append,List.reverse_singleton,List.singleton_append] at h9;have:=h9.1.2.1;omega)))
        have hj:V / 4 % 10<10:=Nat.mod_lt _ (by decide)
        go_wp2_with (first | (go_at_call 32;refine (hp _).mono ?_;rintro _ w' ⟨rfl,hw⟩;replace hw:=hw.symm;subst hw))
        refine (hka _).mono ?_
        rintro _ w2 ⟨rfl,hb2,hs2,hat⟩
        have hown1:=Zv (HRR.out.own.alloc (mdO m.1 m.2.1 m.2.2)) hb2
        rw[List.length_append,List.length_singleton] at hown1
        have hat1:=hat _ hj
        simp only[World.size_alloc] at hat1 hs2
        obtain⟨e0,d0,hG0,hd0,hl0,hq0⟩:=zjS _ hj
        have hGA:=znO _ hj hq0
        generalize zO.getD (V / 4 % 10) []=T at hat1 hG0 hl0 hq0 hGA
        have HGA:=zjV hGA
        clear hGA
        have HG0:=(show Hid (Gx T e0 d0) from hG0)
        have HBW:Hid (∀ O1 O2,Below wr.heap.size wr ((w2.alloc O1).alloc O2)):=fun O1 O2=>(((zc wr _).trans (hb2.mono (by simp))).alloc (by omega) _).alloc (by simp;omega) _
        clear hat hb2 hka hG0
        rcases hq0 with ⟨hTe,rfl,rfl⟩ | ⟨hTe,rfl,rfl⟩
        ·go_wp2_with (first | (at_builtin;refine wpList_append_lies _ rfl _ _ 101 rfl (w.heap.size+1) 43 i0 _ 3 32 Tryz.underlying101 hi hz0 hz1 hz2 rfl (by decide) _ _ _ rfl ((hown1.alloc _).alloc _) ⟨w2.heap.size+1,0,none⟩ 1 1 (mdC (T,true,1)) rfl rfl ?c1 (qf _) (by decide) ?c3 ?c4 ?c5 (w2.heap.size+2) (by simp) ?_))
         case c1=>exact World.news_of_block (qb _ _ _ (by simp))
         case c3=>unfold maxLen;(try simp only[List.length_nil,List.length_append,List.length_singleton]);omega
         case c4=>(try simp only[List.length_nil,List.length_append,List.length_singleton]);omega
         case c5=>simp;omega
         intro g3 cp3 w3 hown3 hgrow3 hat3 hlt3
         have hN:=HRR.out.push hk24 (HBW.out _ _) (m:=(T,true,1)) (by simpa using hown3) hgrow3 HG0.out hd0 hl0
         clear hown1 hown3 hgrow3 hat3
         go_wp2
         go_roundw
         case rel=>exact⟨k+1,_,by go_num,hN,by omega,zjV (znp HS1.out HV.out HSTP.out HG1.out HA1.out HGA.out)⟩
         case measure=>simp[intOf];omega
        ·go_wp2_with (first | (at_builtin;refine wpList_append_lies _ rfl _ _ 101 rfl (w.heap.size+1) 43 i0 _ 3 32 Tryz.underlying101 hi hz0 hz1 hz2 rfl (by decide) _ _ _ rfl ((hown1.alloc _).alloc _) ⟨w2.heap.size+1,0,none⟩ 1 1 (mdC (T,false,0)) rfl rfl ?c1 (qf _) (by decide) ?c3 ?c4 ?c5 (w2.heap.size+2) (by simp) ?_))
         case c1=>exact World.news_of_block (qb _ _ _ (by simp))
         case c3=>unfold maxLen;(try simp only[List.length_nil,List.length_append,List.length_singleton]);omega
         case c4=>(try simp only[List.length_nil,List.length_append,List.length_singleton]);omega
         case c5=>simp;omega
         intro g3 cp3 w3 hown3 hgrow3 hat3 hlt3
         have hN:=HRR.out.push hk24 (HBW.out _ _) (m:=(T,false,0)) (by simpa using hown3) hgrow3 HG0.out hd0 hl0
         clear hown1 hown3 hgrow3 hat3
         go_wp2
         go_roundw
         case rel=>exact⟨k+1,_,by go_num,hN,by omega,zjV (znp HS1.out HV.out HSTP.out HG1.out HA1.out HGA.out)⟩
         case measure=>simp[intOf];omega
   ·go_wp2_with fail
    refine bodyPost_ret (v:=mdV m.1 m.2.1 m.2.2) (by simp[results,Tryz.results23,go_sem,hres,hlt0];done) rfl ⟨m,rfl,⟨s1,r1,by rw[show min len 24=k from by omega];exact HS1.out,HG1.out⟩,(HRR.out.good m (by simp)).2,?_,?_⟩
    ·have h1:=HRR.out.tot;have h2:=zke (ms:=ini++[m]) (m:=m) (by simp);omega
    ·exact (((HRR.out.below.setCell (Nat.le_refl _) _).setCell (Nat.le_refl _) _).setCell (Nat.le_refl _) _)
  ·go_wp2_with fail
   refine bodyPost_ret (v:=mdV m.1 m.2.1 m.2.2) (by simp[results,Tryz.results23,go_sem,hres,hlt0];done) rfl ⟨m,rfl,⟨s1,r1,by rw[show min len 24=k from by omega];exact HS1.out,HG1.out⟩,(HRR.out.good m (by simp)).2,?_,?_⟩
   ·have h1:=HRR.out.tot;have h2:=zke (ms:=ini++[m]) (m:=m) (by simp);omega
   ·exact (((HRR.out.below.setCell (Nat.le_refl _) _).setCell (Nat.le_refl _) _).setCell (Nat.le_refl _) _)
end Go.Proofs.YtiganlkabilblaaGreatDoor
