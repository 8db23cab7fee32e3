import Derived.Test.YtiganlkabilblaaGreatDoorV17
import Derived.Test.YtiganlkabilblaaGreatDoorV26
import Derived.Deep.RegionHeld
set_option linter.all false
set_option maxHeartbeats 64000000
set_option maxRecDepth 100000
namespace Go.Proofs.YtiganlkabilblaaGreatDoor
open Tryz
open Tryz renaming prog->P
open Option renaming some->S,none->N
open Value renaming int->I
open IntKind renaming i64->J
def jS:List z7->z7
 |[]=>[]
 |[s]=>s
 |s::a=>s++(32::jS a)
def jSq:List z7->z7
 |[]=>[40,41]
 |ss=>jS ss
def jC:List (List z7)->z7
 |[]=>[]
 |[s]=>jSq s
 |s::c=>jSq s++([32,47,32]++jC c)
theorem zp3:∀s:List Term,prS s=jS (s.map prT)
 |[]=>by simp[prS,jS]
 |[t]=>by simp[prS,jS]
 |t::a::s=>by have:=zp3 (a::s);simp only[prS,List.map_cons,jS]at *;rw[this]
theorem znW:∀s:List Term,znd s=jSq (s.map prT)
 |[]=>by simp[znd,jSq]
 |t::s=>by have:=zp3 (t::s);simp only[znd,List.map_cons,jSq]at *;exact this
theorem zp0:∀c:List (List Term),prC c=jC (c.map (λs=>s.map prT))
 |[]=>by simp[prC,jC]
 |[s]=>by simp[prC,jC,znW]
 |s::a::c=>by have:=zp0 (a::c);simp only[prC,List.map_cons,jC]at *;rw[this,znW]
def zsG(d:List RE)(b:Nat->z7->Prop)(q:Nat)(c:List z7):Prop:=∃a,d[q]?=S ⟨5,[],[],0,a⟩/\Qo b a c
structure zsk(xs:List RE)(RP RI:Nat->Bool->z7->Prop)(RT RC:Nat->z7->Prop):Prop where
 name:∀k b sg,xs[k]?=some ⟨4,[],b,0,[]⟩->RP k sg b
 lit:∀k b sg,xs[k]?=some ⟨1,b.map (λc=>(c,c)),[],0,[]⟩->b.length<=250000->RP k sg (znr b)
 cls:∀k l sg,xs[k]?=some ⟨2,l,[],0,[]⟩->l.length<=100000->RP k sg (znv l)
 any:∀k sg,xs[k]?=some ⟨3,[],[],0,[]⟩->RP k sg [46]
 brk:∀k q qs ks sg s,xs[k]?=some ⟨6,[],[],0,q::qs⟩->xs[q]?=some ⟨5,[],[],0,ks⟩->(qs≠[]\/1<ks.length)->s.length<=600000->RC k s->RP k sg (40::(s++[41]))
 unit:∀k q sg,xs[k]?=some ⟨6,[],[],0,[q]⟩->xs[q]?=some ⟨5,[],[],0,[]⟩->RP k sg [40,41]
 thru:∀k q t e sg s,xs[k]?=some ⟨6,[],[],0,[q]⟩->xs[q]?=some ⟨5,[],[],0,[t]⟩->xs[t]?=some e->¬(7<=e.kind/\e.kind<=11)->RP t sg s->RP k sg s
 sgn:∀k q t e sg s,xs[k]?=some ⟨6,[],[],0,[q]⟩->xs[q]?=some ⟨5,[],[],0,[t]⟩->xs[t]?=some e->7<=e.kind->e.kind<=11->s.length<=600000->RT t s->RP k sg (if sg then 40::(s++[41])else s)
 item:∀k e sg s,xs[k]?=some e->¬(7<=e.kind/\e.kind<=9)->RP k sg s->RI k sg s
 itemS:∀k j b sg s,xs[k]?=some (zy (zE [b]) j)->(b=63\/b=42\/b=43)->s.length<=600000->RP j true s->RI k sg (s++[b])
 term:∀k e s,xs[k]?=some e->¬(e.kind=10\/e.kind=11)->RI k false s->RT k s
 termS:∀k i a s,xs[k]?=some (zy (zE [a]) i)->(a=38\/a=33)->s.length<=600000->RI i true s->RT k (a::s)
 choice:∀k qs sss,xs[k]?=some ⟨6,[],[],0,qs⟩->Qo (zsG xs RT) qs sss->(jC sss).length<=600000->RC k (jC sss)
theorem zw.kind9{a:List RE}{j:Nat}{p:zC}(h:zw a j p):∃x,a[j]?=S x/\¬(7<=x.kind/\x.kind<=11):=by
 cases p with
 |name b=>simp only[zw]at h;exact⟨_,h,by simp⟩|lit b=>simp only[zw]at h;exact⟨_,h,by simp⟩|cls l=>simp only[zw]at h;exact⟨_,h,by simp⟩|any=>simp only[zw]at h;exact⟨_,h,by simp⟩|group c=>simp only[zw]at h;obtain⟨d,h,_⟩:=h;exact⟨_,h,by simp⟩
theorem ztl{b:UInt8}(h:b=63\/b=42\/b=43):7<=zE [b]/\zE [b]<=9:=by rcases h with rfl|rfl|rfl<;>decide
theorem zuo{b:UInt8}(h:b=38\/b=33):10<=zE [b]/\zE [b]<=11:=by rcases h with rfl|rfl<;>decide
theorem Qo.sg{d:List RE}{b:Nat->z7->Prop}{a:List Nat}{c:List (List z7)}(h:Qo (zsG d b) a c):a.length=c.length:=h.len.symm
mutual
theorem ppP{xs:List RE}{RP RI:Nat->Bool->z7->Prop}{RT RC:Nat->z7->Prop}(h:zsk xs RP RI RT RC):∀(p:zC) {k:Nat} (sg:Bool),zw xs k p->wtP p<=500000->RP k sg (prP p sg)
  | .name b,k,sg=>by
    intro hd _
    simp only[zw]at hd
    simp only[prP];exact h.name k b sg hd
  | .lit b,k,sg=>by
    intro hd hw
    simp only[zw]at hd
    simp only[wtP]at hw
    simp only[prP];exact h.lit k b sg hd (by omega)
  | .cls l,k,sg=>by
    intro hd hw
    simp only[zw]at hd
    simp only[wtP]at hw
    simp only[prP];exact h.cls k l sg hd (by omega)
  | .any,k,sg=>by
    intro hd _
    simp only[zw]at hd
    simp only[prP];exact h.any k sg hd
  | .group [],k,sg=>by
    intro hd hw
    simp only[wtP,wtC]at hw
    omega
  | .group [[]],k,sg=>by
    intro hd _
    simp only[zw,zZ,Z7]at hd
    obtain⟨qs,h1,q,qs',ks,rfl,h2,rfl,rfl⟩:=hd
    simp only[prP];exact h.unit k q sg h1 h2
  | .group [[.mk a p b]],k,sg=>by
    intro hd hw
    have hT:=λ(k:Nat)=>ppT h (.mk a p b) (k:=k)
    have hP:=λ(k:Nat)=>ppP h p (k:=k) sg
    have hlen:=zo1 (.mk a p b)
    simp only[zw,zZ,Z7]at hd
    obtain⟨qs,h1,q,qs',ks,rfl,h2,⟨t,ks',rfl,h3,rfl⟩,rfl⟩:=hd
    simp only[wtP,wtC,wtS]at hw
    have hT':=hT t h3 (by omega)
    have h3':=h3
    simp only[Zw]at h3
    obtain⟨i,j,e1,e2,h4,h5,h6⟩:=h3
    by_cases h0:a=0/\b=0
    · obtain⟨rfl,rfl⟩:=h0
      simp only[if_pos]at e1 e2
      subst e1
      subst e2
      obtain⟨x,hx,hx2⟩:=zw.kind9 h4
      have:=h.thru k q t x sg _ h1 h2 hx hx2 (hP t h4 (by simp only[wtT]at hw;omega))
      simpa[prP]using this
    · have hx:∃x,xs[t]?=some x/\7<=x.kind/\x.kind<=11:=by
        by_cases ha:a=0
        · rw[if_pos ha]at e1
          subst e1
          have hb:b≠0:=λe=>h0 ⟨ha,e⟩
          rw[if_neg hb]at e2
          have:=ztl (h5.resolve_left hb)
          exact⟨_,e2,by simp only[zy];omega,by simp only[zy];omega⟩
        · rw[if_neg ha]at e1
          have:=zuo (h6.resolve_left ha)
          exact⟨_,e1,by simp only[zy];omega,by simp only[zy];omega⟩
      obtain⟨x,hx,hx1,hx2⟩:=hx
      have:=h.sgn k q t x sg _ h1 h2 hx hx1 hx2 (by omega) hT'
      simp only[prP,if_neg h0];exact this
  | .group ([]::s2::c),k,sg=>by
    intro hd hw
    have hC:=λ(qs:List Nat)=>ppC h ([]::s2::c) (qs:=qs)
    have hl:=znJ ([]::s2::c)
    simp only[zw]at hd
    obtain⟨qs,h1,h2⟩:=hd
    simp only[wtP]at hw
    have hA:=hC qs h2 (by omega)
    have hc:=h.choice k qs _ h1 hA (by rw[<-zp0];omega)
    rw[<-zp0]at hc
    rw[znQ _ _ (by simp) (by simp)]
    simp only[zZ]at h2
    obtain⟨q,qs1,ks,rfl,h3,h4,q2,qs2,ks2,rfl,h5⟩:=h2
    exact h.brk k q _ ks sg _ h1 h3 (.inl (by simp)) (by omega) hc
  | .group ((t::t2::s)::c),k,sg=>by
    intro hd hw
    have hC:=λ(qs:List Nat)=>ppC h ((t::t2::s)::c) (qs:=qs)
    have hl:=znJ ((t::t2::s)::c)
    simp only[zw]at hd
    obtain⟨qs,h1,h2⟩:=hd
    simp only[wtP]at hw
    have hA:=hC qs h2 (by omega)
    have hc:=h.choice k qs _ h1 hA (by rw[<-zp0];omega)
    rw[<-zp0]at hc
    rw[znQ _ _ (by simp) (by simp)]
    simp only[zZ,Z7]at h2
    obtain⟨q,qs1,ks,rfl,h3,⟨k1,ks1,rfl,h4,k2,ks2,rfl,h5⟩,h6⟩:=h2
    exact h.brk k q _ _ sg _ h1 h3 (.inr (by simp)) (by omega) hc
  | .group ([t]::s2::c),k,sg=>by
    intro hd hw
    have hC:=λ(qs:List Nat)=>ppC h ([t]::s2::c) (qs:=qs)
    have hl:=znJ ([t]::s2::c)
    simp only[zw]at hd
    obtain⟨qs,h1,h2⟩:=hd
    simp only[wtP]at hw
    have hA:=hC qs h2 (by omega)
    have hc:=h.choice k qs _ h1 hA (by rw[<-zp0];omega)
    rw[<-zp0]at hc
    rw[znQ _ _ (by simp) (by simp)]
    simp only[zZ]at h2
    obtain⟨q,qs1,ks,rfl,h3,h4,q2,qs2,ks2,rfl,h5⟩:=h2
    exact h.brk k q _ ks sg _ h1 h3 (.inl (by simp)) (by omega) hc
theorem ppT{xs:List RE}{RP RI:Nat->Bool->z7->Prop}{RT RC:Nat->z7->Prop}(h:zsk xs RP RI RT RC):∀(t:Term) {k:Nat},Zw xs k t->wtT t<=500000->RT k (prT t)
  | .mk a p b,k=>by
    intro hd hw
    have hP:=λ(k:Nat) (sg:Bool)=>ppP h p (k:=k) sg
    have hlen:=λsg=>zom p sg
    simp only[Zw]at hd
    obtain⟨i,j,e1,e2,h4,h5,h6⟩:=hd
    simp only[wtT]at hw
    have hw':wtP p<=500000:=by omega
    have hI:∀sg,(sg=(a !=0))->RI i sg (prP p (a !=0||b !=0)++zne b):=by
      intro sg hsg
      by_cases hb:b=0
      · rw[if_pos hb]at e2
        subst e2
        obtain⟨x,hx,hx2⟩:=zw.kind9 h4
        have:=h.item i x sg _ hx (by omega) (hP i sg h4 hw')
        subst hb
        simpa[zne,hsg]using this
      · rw[if_neg hb]at e2
        have hb1:(a !=0||b !=0)=true:=by simp[hb]
        rw[hb1]
        have:=h.itemS i j b sg _ e2 (h5.resolve_left hb) (by have:=hlen true;omega) (hP j true h4 hw')
        simpa[zne,hb]using this
    by_cases ha:a=0
    · rw[if_pos ha]at e1
      subst e1
      subst ha
      have hk:∃x,xs[k]?=some x/\¬(x.kind=10\/x.kind=11):=by
        by_cases hb:b=0
        · rw[if_pos hb]at e2
          subst e2
          obtain⟨x,hx,hx2⟩:=zw.kind9 h4
          exact⟨x,hx,by omega⟩
        · rw[if_neg hb]at e2
          have:=ztl (h5.resolve_left hb)
          exact⟨_,e2,by simp only[zy];omega⟩
      obtain⟨x,hx,hx2⟩:=hk
      have:=h.term k x _ hx hx2 (hI false rfl)
      simpa[prT,zne]using this
    · rw[if_neg ha]at e1
      have h1:(a !=0)=true:=by simp[ha]
      have hl:(prP p (a !=0||b !=0)++zne b).length<=600000:=by
        have g1:=hlen (a !=0||b !=0)
        have g2:=zo4 b
        rw[List.length_append];omega
      have:=h.termS k i a _ e1 (h6.resolve_left ha) hl (hI true h1.symm)
      simpa[prT,zne,ha]using this
theorem ppS{xs:List RE}{RP RI:Nat->Bool->z7->Prop}{RT RC:Nat->z7->Prop}(h:zsk xs RP RI RT RC):∀(s:List Term) {ks:List Nat},Z7 xs ks s->wtS s<=500000->Qo RT ks (s.map prT)
  |[],ks=>by
    intro hd _
    simp only[Z7]at hd
    subst hd
    exact trivial
  |t::s,ks=>by
    intro hd hw
    simp only[Z7]at hd
    obtain⟨k,ks',rfl,h1,h2⟩:=hd
    simp only[wtS]at hw
    exact⟨ppT h t h1 (by omega),ppS h s h2 (by omega)⟩
theorem ppC{xs:List RE}{RP RI:Nat->Bool->z7->Prop}{RT RC:Nat->z7->Prop}(h:zsk xs RP RI RT RC):∀(c:List (List Term)) {qs:List Nat},zZ xs qs c->wtC c<=500000->Qo (zsG xs RT) qs (c.map (λs=>s.map prT))
  |[],qs=>by
    intro hd _
    simp only[zZ]at hd
    subst hd
    exact trivial
  |[s],qs=>by
    intro hd hw
    simp only[zZ]at hd
    obtain⟨q,qs',ks,rfl,h1,h2,rfl⟩:=hd
    simp only[wtC]at hw
    exact⟨⟨ks,h1,ppS h s h2 (by omega)⟩,trivial⟩
  |s::s2::c,qs=>by
    intro hd hw
    have hC:=λ(qs:List Nat)=>ppC h (s2::c) (qs:=qs)
    simp only[zZ]at hd
    obtain⟨q,qs',ks,rfl,h1,h2,h3⟩:=hd
    have hw1:wtC (s::s2::c)=3+wtS s+wtC (s2::c):=by simp only[wtC]
    exact⟨⟨ks,h1,ppS h s h2 (by omega)⟩,hC qs' (by simp only[zZ];exact h3) (by omega)⟩
 end
theorem ztY{b:List RE}{e d:Nat->Bool->z7->Prop}{f a:Nat->z7->Prop}(h:zsk b e d f a){k:Nat}{c:List (List Term)}(hd:zw b k (.group c))(j:wtC c<=500000):a k (prC c):=by simp only[zw]at hd;obtain⟨l,g,i⟩:=hd;have m:=znJ c;have:=h.choice k l _ g (ppC h c i j) (by rw[<-zp0];omega);rw[<-zp0]at this;exact this
section
open Go.RowKit
attribute [local go_sem ↓] Go.wp_at_zero Go.wp_at_succ
theorem zs9(x:z7):∀l:List z7,jS (l++[x])=if l=[]then x else jS l++(32::x)
 |[]=>by simp[jS]
 |[a]=>by simp[jS]
 |a::b::l=>by have c:=zs9 x (b::l);rw[if_neg (by simp)]at c|-;simp only[List.cons_append,jS]at *;rw[c];simp
theorem zsz(x:List z7):∀l:List (List z7),jC (l++[x])=if l=[]then jSq x else jC l++([32,47,32]++jSq x)
 |[]=>by simp[jC]
 |[a]=>by simp[jC]
 |a::b::l=>by have c:=zsz x (b::l);rw[if_neg (by simp)]at c|-;simp only[List.cons_append,jC]at *;rw[c];simp
theorem zrT{β:Type}{l:List β}{t:Nat}(h:t<l.length):l.take (t+1)=l.take t++[l[t]]:=List.take_succ_eq_append_getElem h
theorem zs0{β:Type}{l:List β}{t:Nat}(h:t<l.length):l.take t=[]↔t=0:=by
 constructor;·intro e;have:=congrArg List.length e;rw[List.length_take,List.length_nil]at this;omega
 ·rintro rfl;rfl
theorem zsS(l:List z7):∀n t,l.length-t=n->(jS (l.take t)).length<=(jS l).length
 |0,t,h=>by rw[List.take_of_length_le (by omega)];exact Nat.le_refl _
 |n+1,t,h=>by
  have b:t<l.length:=by omega
  have a:=zsS l n (t+1) (by omega);rw[zrT b,zs9]at a;split at a;·rename_i e;rw[e];simp[jS]
  ·rw[List.length_append]at a;omega
theorem zte(l:List (List z7)):∀n t,l.length-t=n->(jC (l.take t)).length<=(jC l).length
 |0,t,h=>by rw[List.take_of_length_le (by omega)];exact Nat.le_refl _
 |n+1,t,h=>by
  have b:t<l.length:=by omega
  have a:=zte l n (t+1) (by omega);rw[zrT b,zsz]at a;split at a;·rename_i e;rw[e];simp[jC]
  ·rw[List.length_append]at a;omega
theorem zs3(a b:z7)(h:a.length+b.length<=2000000)(W:World):(Op.stringOp .add ⟨a.toArray⟩ ⟨b.toArray⟩).run P W=.ok (.string ⟨(a++b).toArray⟩) W:=by rw[run_string_add_sum W _ _ (by show a.toArray.size+b.toArray.size<=_;simp;omega)];exact congrArg (λb=>Result.ok (Value.string b) W) (zpx a b)
structure ChW(w:World)(B gb:Nat)(vx vr:Value)(ps:List (RE×Value×Value))(rs:List (z7×Nat))(O:Obj)(wr:World):Prop where
 mem:GM wr B gb vx vr (ps.map (ZY (zj rs))) rs
 own:wr.heap[w.heap.size]?=some O
 below:Below w.heap.size w wr
 kept:∀b,b<w.heap.size->wr.heap[b]?=w.heap[b]?
theorem ChW.go{w:World}{B c:Nat}{g f:Value}{d:List (RE×Value×Value)}{e:List (z7×Nat)}{O:Obj}{wr i:World}(h:ChW w B c g f d e O wr)(a:Below wr.heap.size wr i):ChW w B c g f d e O i:=by have k:=h.below.size;exact⟨h.mem.below a,by rw[a.block _ (za h.own)];exact h.own,h.below.trans (a.mono k),λb j=>by rw[a.block b (by omega)];exact h.kept b j⟩
abbrev zsb(a:Option Addr)(b:Nat)(z:Int)(c:Option Addr)(n d:Nat):Obj:=.cells #[I J 5,.slice a 0 b,.string ⟨#[]⟩,I J z,.slice c n d] 149 (0,0)
theorem ztT(B gb:Nat)(vx vr:Value)(Z:List (RE×Value×Value))(rs:List (z7×Nat))(k:Nat)(u:List Nat)(y:List (List z7))(v:(zK Z)[k]?=S ⟨6,[],[],0,u⟩)(ax:Qo (zsG (zK Z) (zsw B gb vx vr Z rs)) u y)(hl:(jC y).length<=600000):zsP B gb vx vr Z rs k (jC y):=by
 intro w h;obtain⟨xg,xc,ia,ic,pa,pc,hi,rfl,bd,c0,c1,c2,c3,c4,bb,aZ,az,aU⟩:=h.exq v;have b6:=h.lt;have q:=z8 h.blk;have b9:(k:Int)<Z.length:=by omega
 simp only[List.length_nil]at c0 c1 c2 c3 c4 aZ az;have b4:w.cell? ⟨xg,k *5,N⟩=S (I J 6):=c0;generalize rfE (zj rs) _ 0=z1 at c3;obtain⟨O,hO⟩:∃O,O=Obj.cells #[I J 6,.slice ia 0 ic,.string ⟨#[]⟩,I J z1,.slice pa u.length pc] 149 (0,0):=⟨_,rfl⟩;have HS:Hid (ChW w B gb (.slice (S ⟨xg,0,N⟩) Z.length xc) vr Z rs O (w.alloc O)):=⟨h.below (zc _ _),zk _ _,zc _ _,λb hb=>zm _ _ hb⟩;have aM:=ax.len;have aN:=z6 ax;have HL:=z6 hl;have aO:=z6 az;have aF:=z6 aM;have HO:=z6 hO;clear v h aU az ax hl aM c0;subst hO;go_enter func41,ntmps41;go_wp2_with fail;go_loopg[5,7] u.length (λm vo vk wr=>∃t:Nat,m=u.length-t/\vo=.string ⟨(jC (y.take t)).toArray⟩/\vk=I J t/\t<=u.length/\Hid (ChW w B gb (.slice (S ⟨xg,0,N⟩) Z.length xc) vr Z rs (Obj.cells #[I J 6,.slice ia 0 ic,.string ⟨#[]⟩,I J z1,.slice pa u.length pc] 149 (0,0)) wr));case atStart=>exact⟨0,by omega,rfl,rfl,by omega,HS⟩
 case round=>
  obtain⟨t,rfl,rfl,rfl,ht,H⟩:=hrel;obtain⟨i,b3⟩:∃i,i=wr:=⟨_,rfl⟩;subst b3;have eo:=z8 H.out.own;have b5:=za H.out.own;obtain⟨P,hP⟩:∃P,P=jC (y.take t):=⟨_,rfl⟩;rw[<-hP];by_cases aJ:t<u.length
  ·have aV:(t:Int)<u.length:=by omega
   have Y:t<y.length:=by have:=aF.out;omega
   obtain⟨pg,aW,aX,aK⟩:=aO.out t aJ;have aL:i.cell? ⟨pg,t,N⟩=S (I J u[t]):=by rw[World.cell?_of_block (a:=⟨pg,t,N⟩) (H.out.kept pg aX)];exact aK
   subst aW;obtain⟨ks,aI,au⟩:=aN.out.get t aJ Y;obtain⟨bg,bf,a3,a4,a5,a6,b8,hv,be,d0,d1,d2,d3,d4,aY,aC,aA,_⟩:=H.out.mem.exq aI;cases hv;simp only[List.length_nil]at d0 d1 d2 d3 d4 aC aA;have aG:i.cell? ⟨xg,u[t] *5,N⟩=S (I J 5):=d0;have bc:(u[t]:Int)<Z.length:=by omega
   generalize rfE (zj rs) _ 0=z2 at d3;have q2:=z8 H.out.mem.blk;have b7:=H.out.mem.lt;obtain⟨c,ah⟩:∃c,c=y[t]:=⟨_,rfl⟩;rw[<-ah]at au;have aH:=au.len;have aD:=z6 au;have U:=z6 aH;have aE:=z6 aA;have E:(jC (y.take (t+1))).length<=600000:=Nat.le_trans (zte y _ (t+1) rfl) HL.out;rw[zrT Y,zsz, <-ah]at E;have b0:ks.length<=9223372036854775807:=aC;have ba:pg<i.heap.size:=by have:=H.out.below.size;omega
   obtain⟨M,hM⟩:∃M,M=ks.length:=⟨_,rfl⟩;rw[<-hM]at d4 b0;have V:=z6 hM;clear d0 aK au aI aA aH aY aC hM;by_cases ag:t=0
   ·have b2:¬(0:Int)<t:=by omega
    obtain⟨n,X⟩:∃n,n=P:=⟨_,rfl⟩;rw[if_pos ((zs0 Y).2 ag)]at E;have ak:Hid (n++jSq c=jC (y.take (t+1))):=by show _=_;rw[zrT Y,zsz,if_pos ((zs0 Y).2 ag),X,hP,(zs0 Y).2 ag, <-ah];rfl
    have a2:n.length+(jSq c).length<=600000:=by rw[X,hP,(zs0 Y).2 ag];simp[jC];exact E
    rw[<-X];clear hP ah X E ag;go_wp2_with fail;go_region;all_goals
     obtain⟨p,K⟩:∃p,p=(i.alloc (zsb a3 a4 z2 a5 M a6)).drew:=⟨_,rfl⟩;rw[<-K];have aa:Below i.heap.size i p:=by rw[K];exact(zc _ _).drew
     have a1:p.heap[i.heap.size]?=S (zsb a3 a4 z2 a5 M a6):=by rw[K];exact zk i _
     have b1:p.heap.size=i.heap.size+1:=by rw[K];show(i.alloc _).heap.size=_;simp
     have ai:=z6 (H.out.go aa);have e2:=z8 a1;have l2:=za a1;have av:=z6 aa;have al:=z6 a1;clear K aa a1 H eo aL q2 d1 d2 d3 d4 aG;by_cases am:M=0
     ·subst am;have aq:c=[]:=List.length_eq_zero_iff.1 (by have:=U.out;have:=V.out;omega);obtain⟨f,s⟩:∃f,f=n++[40,41]:=⟨_,rfl⟩;have aw:∀W:World,(Op.stringOp .add ⟨n.toArray⟩ ⟨#[40,41]⟩).run prog W=.ok (.string ⟨f.toArray⟩) W:=by intro W;rw[s];exact zs3 n [40,41] (by simp;omega) W
      have aj:Hid (0≠0->f.length+(jS c).length<=600000):=λh=>absurd rfl h;have a9:Hid (f++jS c=n++jSq c):=by show _=_;rw[s,aq];simp[jS,jSq]
      clear s a2 aq;go_wp2_with fail;clear aw;go_loopg[5,9] 0 (λm vo vj wr=>∃j:Nat,m=0-j/\vo=.string ⟨(f++jS (c.take j)).toArray⟩/\vj=I J j/\j<=0/\Hid (Below p.heap.size p wr));case atStart=>exact⟨0,by omega,by simp[jS],rfl,by omega,Below.refl _ _⟩
      case round=>
       obtain⟨j,rfl,rfl,rfl,hj,o⟩:=hrel;have af:=o.out.size;have z:wr.heap[i.heap.size]?=S (zsb a3 a4 z2 a5 0 a6):=by rw[o.out.block _ (by omega)];exact al.out
       have e8:=z8 z;have l8:=za z;have a0:=z6 (ai.out.go o.out);obtain⟨d,g⟩:∃d,d=f++jS (c.take j):=⟨_,rfl⟩;rw[<-g];clear z;by_cases E:j<0;·exact absurd E (Nat.not_lt_zero _)
       ·have ap:¬(j:Int)<0:=by omega
        have D:d=jC (y.take (t+1)):=by rw[g,List.take_of_length_le (by have:=U.out;have:=V.out;omega),a9.out,ak.out]
        have HF:=z6 D;clear g D;go_wp2_with fail;go_roundg (u.length-(t+1));case measure=>omega
        case rel=>exact⟨t+1,rfl,congrArg (λl=>Value.string ⟨List.toArray l⟩) HF.out,by go_num,by omega,a0⟩
     ·have aQ:((M:Int)==0)=false:=by simpa using am
      have aR:¬(M:Int)=0:=by omega
      obtain⟨f,s⟩:∃f,f=n:=⟨_,rfl⟩;rw[<-s];have ar:c≠[]:=λe=>by have:=U.out;have:=V.out;rw[e]at *;simp at *;omega
      have ae:jSq c=jS c:=by
       cases c with
       |nil=>exact absurd rfl ar|cons aP l=>rfl
      have aj:Hid (M≠0->f.length+(jS c).length<=600000):=λ_=>by rw[s, <-ae];exact a2
      have a9:Hid (f++jS c=n++jSq c):=by show _=_;rw[s,ae]
      clear s a2 ar ae;go_wp2_with fail;go_loopg[5,9] M (λm vo vj wr=>∃j:Nat,m=M-j/\vo=.string ⟨(f++jS (c.take j)).toArray⟩/\vj=I J j/\j<=M/\Hid (Below p.heap.size p wr));case atStart=>exact⟨0,by omega,by simp[jS],rfl,by omega,Below.refl _ _⟩
      case round=>
       obtain⟨j,rfl,rfl,rfl,hj,o⟩:=hrel;have af:=o.out.size;have z:wr.heap[i.heap.size]?=S (zsb a3 a4 z2 a5 M a6):=by rw[o.out.block _ (by omega)];exact al.out
       have e8:=z8 z;have l8:=za z;have a0:=z6 (ai.out.go o.out);obtain⟨d,g⟩:∃d,d=f++jS (c.take j):=⟨_,rfl⟩;rw[<-g];clear z;by_cases E:j<M
       ·have ap:(j:Int)<M:=by omega
        have ao:j<ks.length:=by have:=V.out;omega
        have F:j<c.length:=by have:=U.out;omega
        obtain⟨G,rfl,aB,ab⟩:=aE.out j ao;have aT:wr.cell? ⟨G,j,N⟩=S (I J ks[j]):=by rw[World.cell?_of_block (a:=⟨G,j,N⟩) (o.out.block G (by show G<_;omega)),World.cell?_of_block (a:=⟨G,j,N⟩) (av.out.block G aB)];exact ab
        have R:=aD.out.get j ao F wr a0.out.mem;have A:f.length+(jS (c.take (j+1))).length<=600000:=by have h1:=zsS c _ (j+1) rfl;have h2:=aj.out (by omega);omega
        obtain⟨x,v⟩:∃x,x=c[j]:=⟨_,rfl⟩;rw[<-v]at R;rw[zrT F,zs9, <-v]at A;by_cases ad:j=0
        ·have ay:¬(0:Int)<j:=by omega
         have r:c.take j=[]:=(zs0 F).2 ad;rw[if_pos r]at A;have an:∀W:World,(Op.stringOp .add ⟨d.toArray⟩ ⟨x.toArray⟩).run prog W=.ok (.string ⟨(d++x).toArray⟩) W:=λW=>zs3 d x (by rw[g,r];simp[jS];omega) W;have a8:Hid (d++x=f++jS (c.take (j+1))):=by show _=_;rw[zrT F,zs9,if_pos r,g,r,v];simp[jS]
         clear g v A ad r ab;go_wp2_with fail;refine R.mono ?_;rintro _ w5⟨rfl,L⟩;have a7:=z6 (o.out.trans (L.mono af));clear L R;go_wp2_with fail;go_roundg (M-(j+1));case measure=>omega
         case rel=>exact⟨j+1,rfl,congrArg (λl=>Value.string ⟨List.toArray l⟩) a8.out,by go_num,by omega,a7⟩
        ·have ay:(0:Int)<j:=by omega
         have r:c.take j≠[]:=λe=>ad ((zs0 F).1 e);rw[if_neg r]at A;have aS:∀W:World,(Op.stringOp .add ⟨d.toArray⟩ ⟨#[32]⟩).run prog W=.ok (.string ⟨(d++[32]).toArray⟩) W:=λW=>zs3 d [32] (by rw[g];simp at A|-;omega) W;have an:∀W:World,(Op.stringOp .add ⟨(d++[32]).toArray⟩ ⟨x.toArray⟩).run prog W=.ok (.string ⟨((d++[32])++x).toArray⟩) W:=λW=>zs3 (d++[32]) x (by rw[g];simp at A|-;omega) W;have a8:Hid ((d++[32])++x=f++jS (c.take (j+1))):=by show _=_;rw[zrT F,zs9,if_neg r,g,v];simp
         generalize d++[32]=P3 at *;clear g v A r ab;go_wp2_with fail;refine R.mono ?_;rintro _ w5⟨rfl,L⟩;have a7:=z6 (o.out.trans (L.mono af));clear L R;go_wp2_with fail;go_roundg (M-(j+1));case measure=>omega
         case rel=>exact⟨j+1,rfl,congrArg (λl=>Value.string ⟨List.toArray l⟩) a8.out,by go_num,by omega,a7⟩
       ·have ap:¬(j:Int)<M:=by omega
        have D:d=jC (y.take (t+1)):=by rw[g,List.take_of_length_le (by have:=U.out;have:=V.out;omega),a9.out,ak.out]
        have HF:=z6 D;clear g D;go_wp2_with fail;go_roundg (u.length-(t+1));case measure=>omega
        case rel=>exact⟨t+1,rfl,congrArg (λl=>Value.string ⟨List.toArray l⟩) HF.out,by go_num,by omega,a0⟩
   ·have b2:(0:Int)<t:=by omega
    obtain⟨n,X⟩:∃n,n=P++[32,47,32]:=⟨_,rfl⟩;rw[if_neg (λe=>ag ((zs0 Y).1 e))]at E;have ak:Hid (n++jSq c=jC (y.take (t+1))):=by show _=_;rw[zrT Y,zsz,if_neg (λe=>ag ((zs0 Y).1 e)),X,hP, <-ah];simp
    have a2:n.length+(jSq c).length<=600000:=by rw[X,hP];simp only[List.length_append,List.length_cons,List.length_nil]at E|-;omega
    have an:∀W:World,(Op.stringOp .add ⟨P.toArray⟩ ⟨#[32,47,32]⟩).run prog W=.ok (.string ⟨n.toArray⟩) W:=by intro W;rw[X];exact zs3 P [32,47,32] (by rw[X,List.length_append]at a2;simp at a2|-;omega) W
    clear hP ah X E;go_wp2_with fail;clear an;go_region;all_goals
     obtain⟨p,K⟩:∃p,p=(i.alloc (zsb a3 a4 z2 a5 M a6)).drew:=⟨_,rfl⟩;rw[<-K];have aa:Below i.heap.size i p:=by rw[K];exact(zc _ _).drew
     have a1:p.heap[i.heap.size]?=S (zsb a3 a4 z2 a5 M a6):=by rw[K];exact zk i _
     have b1:p.heap.size=i.heap.size+1:=by rw[K];show(i.alloc _).heap.size=_;simp
     have ai:=z6 (H.out.go aa);have e2:=z8 a1;have l2:=za a1;have av:=z6 aa;have al:=z6 a1;clear K aa a1 H eo aL q2 d1 d2 d3 d4 aG;by_cases am:M=0
     ·subst am;have aq:c=[]:=List.length_eq_zero_iff.1 (by have:=U.out;have:=V.out;omega);obtain⟨f,s⟩:∃f,f=n++[40,41]:=⟨_,rfl⟩;have aw:∀W:World,(Op.stringOp .add ⟨n.toArray⟩ ⟨#[40,41]⟩).run prog W=.ok (.string ⟨f.toArray⟩) W:=by intro W;rw[s];exact zs3 n [40,41] (by simp;omega) W
      have aj:Hid (0≠0->f.length+(jS c).length<=600000):=λh=>absurd rfl h;have a9:Hid (f++jS c=n++jSq c):=by show _=_;rw[s,aq];simp[jS,jSq]
      clear s a2 aq;go_wp2_with fail;clear aw;go_loopg[5,9] 0 (λm vo vj wr=>∃j:Nat,m=0-j/\vo=.string ⟨(f++jS (c.take j)).toArray⟩/\vj=I J j/\j<=0/\Hid (Below p.heap.size p wr));case atStart=>exact⟨0,by omega,by simp[jS],rfl,by omega,Below.refl _ _⟩
      case round=>
       obtain⟨j,rfl,rfl,rfl,hj,o⟩:=hrel;have af:=o.out.size;have z:wr.heap[i.heap.size]?=S (zsb a3 a4 z2 a5 0 a6):=by rw[o.out.block _ (by omega)];exact al.out
       have e8:=z8 z;have l8:=za z;have a0:=z6 (ai.out.go o.out);obtain⟨d,g⟩:∃d,d=f++jS (c.take j):=⟨_,rfl⟩;rw[<-g];clear z;by_cases E:j<0;·exact absurd E (Nat.not_lt_zero _)
       ·have ap:¬(j:Int)<0:=by omega
        have D:d=jC (y.take (t+1)):=by rw[g,List.take_of_length_le (by have:=U.out;have:=V.out;omega),a9.out,ak.out]
        have HF:=z6 D;clear g D;go_wp2_with fail;go_roundg (u.length-(t+1));case measure=>omega
        case rel=>exact⟨t+1,rfl,congrArg (λl=>Value.string ⟨List.toArray l⟩) HF.out,by go_num,by omega,a0⟩
     ·have aQ:((M:Int)==0)=false:=by simpa using am
      have aR:¬(M:Int)=0:=by omega
      obtain⟨f,s⟩:∃f,f=n:=⟨_,rfl⟩;rw[<-s];have ar:c≠[]:=λe=>by have:=U.out;have:=V.out;rw[e]at *;simp at *;omega
      have ae:jSq c=jS c:=by
       cases c with
       |nil=>exact absurd rfl ar|cons aP l=>rfl
      have aj:Hid (M≠0->f.length+(jS c).length<=600000):=λ_=>by rw[s, <-ae];exact a2
      have a9:Hid (f++jS c=n++jSq c):=by show _=_;rw[s,ae]
      clear s a2 ar ae;go_wp2_with fail;go_loopg[5,9] M (λm vo vj wr=>∃j:Nat,m=M-j/\vo=.string ⟨(f++jS (c.take j)).toArray⟩/\vj=I J j/\j<=M/\Hid (Below p.heap.size p wr));case atStart=>exact⟨0,by omega,by simp[jS],rfl,by omega,Below.refl _ _⟩
      case round=>
       obtain⟨j,rfl,rfl,rfl,hj,o⟩:=hrel;have af:=o.out.size;have z:wr.heap[i.heap.size]?=S (zsb a3 a4 z2 a5 M a6):=by rw[o.out.block _ (by omega)];exact al.out
       have e8:=z8 z;have l8:=za z;have a0:=z6 (ai.out.go o.out);obtain⟨d,g⟩:∃d,d=f++jS (c.take j):=⟨_,rfl⟩;rw[<-g];clear z;by_cases E:j<M
       ·have ap:(j:Int)<M:=by omega
        have ao:j<ks.length:=by have:=V.out;omega
        have F:j<c.length:=by have:=U.out;omega
        obtain⟨G,rfl,aB,ab⟩:=aE.out j ao;have aT:wr.cell? ⟨G,j,N⟩=S (I J ks[j]):=by rw[World.cell?_of_block (a:=⟨G,j,N⟩) (o.out.block G (by show G<_;omega)),World.cell?_of_block (a:=⟨G,j,N⟩) (av.out.block G aB)];exact ab
        have R:=aD.out.get j ao F wr a0.out.mem;have A:f.length+(jS (c.take (j+1))).length<=600000:=by have h1:=zsS c _ (j+1) rfl;have h2:=aj.out (by omega);omega
        obtain⟨x,v⟩:∃x,x=c[j]:=⟨_,rfl⟩;rw[<-v]at R;rw[zrT F,zs9, <-v]at A;by_cases ad:j=0
        ·have ay:¬(0:Int)<j:=by omega
         have r:c.take j=[]:=(zs0 F).2 ad;rw[if_pos r]at A;have an:∀W:World,(Op.stringOp .add ⟨d.toArray⟩ ⟨x.toArray⟩).run prog W=.ok (.string ⟨(d++x).toArray⟩) W:=λW=>zs3 d x (by rw[g,r];simp[jS];omega) W;have a8:Hid (d++x=f++jS (c.take (j+1))):=by show _=_;rw[zrT F,zs9,if_pos r,g,r,v];simp[jS]
         clear g v A ad r ab;go_wp2_with fail;refine R.mono ?_;rintro _ w5⟨rfl,L⟩;have a7:=z6 (o.out.trans (L.mono af));clear L R;go_wp2_with fail;go_roundg (M-(j+1));case measure=>omega
         case rel=>exact⟨j+1,rfl,congrArg (λl=>Value.string ⟨List.toArray l⟩) a8.out,by go_num,by omega,a7⟩
        ·have ay:(0:Int)<j:=by omega
         have r:c.take j≠[]:=λe=>ad ((zs0 F).1 e);rw[if_neg r]at A;have aS:∀W:World,(Op.stringOp .add ⟨d.toArray⟩ ⟨#[32]⟩).run prog W=.ok (.string ⟨(d++[32]).toArray⟩) W:=λW=>zs3 d [32] (by rw[g];simp at A|-;omega) W;have an:∀W:World,(Op.stringOp .add ⟨(d++[32]).toArray⟩ ⟨x.toArray⟩).run prog W=.ok (.string ⟨((d++[32])++x).toArray⟩) W:=λW=>zs3 (d++[32]) x (by rw[g];simp at A|-;omega) W;have a8:Hid ((d++[32])++x=f++jS (c.take (j+1))):=by show _=_;rw[zrT F,zs9,if_neg r,g,v];simp
         generalize d++[32]=P3 at *;clear g v A r ab;go_wp2_with fail;refine R.mono ?_;rintro _ w5⟨rfl,L⟩;have a7:=z6 (o.out.trans (L.mono af));clear L R;go_wp2_with fail;go_roundg (M-(j+1));case measure=>omega
         case rel=>exact⟨j+1,rfl,congrArg (λl=>Value.string ⟨List.toArray l⟩) a8.out,by go_num,by omega,a7⟩
       ·have ap:¬(j:Int)<M:=by omega
        have D:d=jC (y.take (t+1)):=by rw[g,List.take_of_length_le (by have:=U.out;have:=V.out;omega),a9.out,ak.out]
        have HF:=z6 D;clear g D;go_wp2_with fail;go_roundg (u.length-(t+1));case measure=>omega
        case rel=>exact⟨t+1,rfl,congrArg (λl=>Value.string ⟨List.toArray l⟩) HF.out,by go_num,by omega,a0⟩
  ·have aV:¬(t:Int)<u.length:=by omega
   have D:P=jC y:=by rw[hP,List.take_of_length_le (by have:=aF.out;omega)]
   have HF:=z6 D;clear D hP;go_wp2_with fail;go_ret;exact⟨congrArg (λl=>Ending.returned (Value.string ⟨List.toArray l⟩)) HF.out,H.out.below⟩
end
end Go.Proofs.YtiganlkabilblaaGreatDoor
