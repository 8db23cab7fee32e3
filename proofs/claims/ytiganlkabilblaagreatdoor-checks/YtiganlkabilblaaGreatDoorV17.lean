import Derived.Test.YtiganlkabilblaaGreatDoorV11
import Derived.BigQuiet
import Derived.Deep.CutRange
import Derived.Test.YtiganlkabilblaaGreatDoorV16
import Derived.Laws.StructEq
import Derived.Test.YtiganlkabilblaaGreatDoorV12
import Derived.Defers
import Derived.RegionTactic
import Derived.BigRegion
set_option linter.all false
set_option maxHeartbeats 64000000
set_option maxRecDepth 100000
namespace Go.Proofs.YtiganlkabilblaaGreatDoor
open Tryz
open Tryz renaming prog->P
open Option renaming some->S,none->N
open Value renaming int->I
open IntKind renaming i64->J
section
open Go.RowKit
attribute [local go_sem ↓] Go.wp_at_zero Go.wp_at_succ
abbrev YB(b a:Value):Obj:=.cells #[b,a] 85 (0,0)
structure GM(w:World)(B gb:Nat)(vx vr:Value)(ps:List (RE×Value×Value))(rs:List (z7×Nat)):Prop where
 blk:w.heap[gb]?=some (YB vx vr)
 ex:w.ownsRow B 149 5 vx ps.length (ps.flatMap exC)
 ru:w.ownsRow B 90 2 vr rs.length (rs.flatMap ruC)
 items:∀p∈ps,Items w B p.2.1 p.1.items
 parts:∀p∈ps,Ints w B p.2.2 p.1.parts
theorem GM.lt{w:World}{B a:Nat}{e d:Value}{b:List (RE×Value×Value)}{c:List (z7×Nat)}(h:GM w B a e d b c):a<w.heap.size:=za h.blk
theorem GM.kept{w w':World}{B d:Nat}{j i:Value}{f:List (RE×Value×Value)}{g:List (z7×Nat)}(h:GM w B d j i f g)(a:∀k,k<w.heap.size->w'.heap[k]?=w.heap[k]?):GM w' B d j i f g:=⟨by rw[a d h.lt];exact h.blk,Z6 h.ex (λb e=>a b (h.ex.lt b e).2),Z6 h.ru (λb e=>a b (h.ru.lt b e).2),λp c=>Z6 (h.items p c) (λb e=>a b ((h.items p c).lt b e).2),λp c=>Z6 (h.parts p c) (λb e=>a b ((h.parts p c).lt b e).2)⟩
theorem GM.below{w w':World}{B a:Nat}{e d:Value}{b:List (RE×Value×Value)}{c:List (z7×Nat)}(h:GM w B a e d b c)(f:Below w.heap.size w w'):GM w' B a e d b c:=h.kept f.block
theorem GM.exAt{w:World}{B e:Nat}{c l:Value}{a:List (RE×Value×Value)}{k:List (z7×Nat)}(h:GM w B e c l a k)(r:0<a.length):∃b m,c=.slice (S ⟨b,0,N⟩) a.length m/\B<=b/\b<w.heap.size/\a.length<=maxLen:=by
 have i:=h.ex;rcases i.2 with⟨_,o⟩|⟨g,d,n,rfl,f,j,p,q,_⟩;·omega
 ·exact⟨g,d,rfl,f,za j,by omega⟩
theorem GM.exCells{w:World}{B i:Nat}{q:Value}{a:List (RE×Value×Value)}{p:List (z7×Nat)}{b n r:Nat}(h:GM w B i (.slice (S ⟨b,0,N⟩) n r) q a p):(∀o,w.frozen? ⟨b,o,N⟩=false)/\∀k (f:k<a.length),w.cell? ⟨b,k *5,N⟩=S (I J a[k].1.kind)/\w.cell? ⟨b,k *5+1,N⟩=S a[k].2.1/\w.cell? ⟨b,k *5+2,N⟩=S (.string ⟨a[k].1.text.toArray⟩)/\w.cell? ⟨b,k *5+3,N⟩=S (I J a[k].1.rule)/\w.cell? ⟨b,k *5+4,N⟩=S a[k].2.2:=by
 have e:=h.ex;have m:n=a.length:=by
  rcases e.2 with⟨d,_⟩|⟨g,s,t,d,_⟩;·cases d
  ·cases d;rfl
 subst m;refine⟨λo=>e.frozenAt o,λk f=> ?_⟩;have c:∀j,j<5->w.cell? ⟨b,k *5+j,N⟩=(exC a[k])[j]?:=λj l=>by rw[e.cellAt _ (by omega),zbx _ _ _ f l]
 exact⟨c 0 (by decide),c 1 (by decide),c 2 (by decide),c 3 (by decide),c 4 (by decide)⟩
theorem zim(a:List (z7×Nat))(i j:Nat)(b:i<a.length)(e:j<2):(a.flatMap ruC)[i *2+j]?=(ruC a[i])[j]?:=by
 induction a generalizing i with
 |nil=>simp at b
 |cons p a d=>
  have c:(ruC p).length=2:=rfl;cases i with
  |zero=>simp only[List.flatMap_cons,Nat.zero_mul,Nat.zero_add,List.getElem_cons_zero];rw[List.getElem?_append_left (by omega)]|succ i=>simp only[List.flatMap_cons,List.getElem_cons_succ];rw[List.getElem?_append_right (by omega),c,show(i+1) *2+j-2=i *2+j from by omega];exact d i (by simpa using b)
theorem GM.ruAt{w:World}{B e:Nat}{m c:Value}{k:List (RE×Value×Value)}{b:List (z7×Nat)}(h:GM w B e m c k b)(r:0<b.length):∃a l,c=.slice (S ⟨a,0,N⟩) b.length l/\B<=a/\a<w.heap.size:=by
 have i:=h.ru;rcases i.2 with⟨_,o⟩|⟨g,d,n,rfl,f,j,p,q,_⟩;·omega
 ·exact⟨g,d,rfl,f,za j⟩
theorem GM.ruCells{w:World}{B i:Nat}{q:Value}{o:List (RE×Value×Value)}{a:List (z7×Nat)}{b n p:Nat}(h:GM w B i q (.slice (S ⟨b,0,N⟩) n p) o a):∀k (f:k<a.length),w.cell? ⟨b,k *2,N⟩=S (.string ⟨a[k].1.toArray⟩)/\w.cell? ⟨b,k *2+1,N⟩=S (I J a[k].2):=by
 have e:=h.ru;have m:n=a.length:=by
  rcases e.2 with⟨c,_⟩|⟨g,r,s,c,_⟩;·cases c
  ·cases c;rfl
 subst m;intro k f;have d:∀j,j<2->w.cell? ⟨b,k *2+j,N⟩=(ruC a[k])[j]?:=λj l=>by rw[e.cellAt _ (by omega),zim _ _ _ f l]
 exact⟨d 0 (by decide),d 1 (by decide)⟩
theorem GM.setRule{w:World}{B j:Nat}{t:Value}{a:List (RE×Value×Value)}{s:List (z7×Nat)}{f n u:Nat}(h:GM w B j (.slice (S ⟨f,0,N⟩) n u) t a s){i:Nat}(m:i<a.length)(r:Int):GM (w.setCell ⟨f,i *5+3,N⟩ (I J r)) B j (.slice (S ⟨f,0,N⟩) n u) t (a.set i ({a[i].1 with rule:=r},a[i].2)) s:=by
 have c:=Chg.set f (i *5+3) (I J r) w;have l:=h.ex;have y:n=a.length:=by
  rcases l.2 with⟨k,_⟩|⟨g,z,D,k,_⟩;·cases k
  ·cases k;rfl
 subst y;obtain⟨A,e⟩:=Qw l (b:=f) rfl;have x:j≠f:=by intro v;subst v;rw[h.blk]at e;simp at e
 have q:=(l.stored (i *5+3) (I J r)).1;rw[zby a i 3 m (by decide) (I J r) ({a[i].1 with rule:=r},a[i].2) rfl]at q;have o:∀p∈a.set i ({a[i].1 with rule:=r},a[i].2),p∈a\/p=({a[i].1 with rule:=r},a[i].2):=λp d=>List.mem_or_eq_of_mem_set d;refine⟨by rw[c.same j h.lt x];exact h.blk,by rw[List.length_set];exact q,zq c h.ru (zn h.ru e (by decide)),λp d=> ?_,λp d=> ?_⟩
 ·rcases o p d with d|rfl;·exact zq c (h.items p d) (zn (h.items p d) e (by decide))
  ·have:=h.items a[i] (List.getElem_mem m);exact zq c this (zn this e (by decide))
 ·rcases o p d with d|rfl;·exact zq c (h.parts p d) (zn (h.parts p d) e (by decide))
  ·have:=h.parts a[i] (List.getElem_mem m);exact zq c this (zn this e (by decide))
def rf(a:List z7)(b:z7)(k:Nat):Int:=if (a.drop k).contains b then((k+(a.drop k).idxOf b:Nat):Int)else -1
theorem zhT(a:List z7)(b:z7)(k:Nat)(f:k<a.length):rf a b k=if a[k]=b then(k:Int)else rf a b (k+1):=by
 unfold rf;rw[List.drop_eq_getElem_cons f];by_cases h:a[k]=b;·rw[if_pos h,if_pos (by simp[h])];simp[h]
 ·have c:(b==a[k])=false:=by simpa usingλe=>h e.symm
  have d:(a[k]==b)=false:=by simpa using h
  rw[if_neg h,List.contains_cons,c,Bool.false_or,List.idxOf_cons,d];simp only[cond_false];rw[show k+((a.drop (k+1)).idxOf b+1)=k+1+(a.drop (k+1)).idxOf b from by omega]
theorem zhS(a:List z7)(b:z7)(k:Nat)(c:a.length<=k):rf a b k= -1:=by unfold rf;rw[List.drop_eq_nil_of_le c];rfl
def rfE(a:List z7)(e:RE)(k:Nat):Int:=if e.kind=4 then rf a e.text k else -1
def ZY(a:List z7)(p:RE×Value×Value):RE×Value×Value:=({p.1 with rule:=rfE a p.1 0},p.2)
structure Ku(names:List z7)(ps qs:List (RE×Value×Value))(i:Nat):Prop where
 len:qs.length=ps.length
 lo:∀j,j<i->qs[j]?=(ps[j]?).map (ZY names)
 hi:∀j,i<=j->qs[j]?=ps[j]?
theorem Ku.next{b:List z7}{f a:List (RE×Value×Value)}{i:Nat}(h:Ku b f a i)(c:i<a.length):Ku b f (a.set i ({a[i].1 with rule:=rfE b a[i].1 0},a[i].2)) (i+1):=by
 have e:=h.hi i (Nat.le_refl _);refine⟨by simp[h.len],?_,?_⟩
 ·intro j g;rw[List.getElem?_set];by_cases d:i=j;·subst d;rw[if_pos rfl,if_pos c, <-e,List.getElem?_eq_getElem c];rfl
  ·rw[if_neg d];exact h.lo j (by omega)
 ·intro j g;rw[List.getElem?_set,if_neg (by omega)];exact h.hi j (by omega)
theorem Ku.done{b:List z7}{a c:List (RE×Value×Value)}(h:Ku b a c a.length):c=a.map (ZY b):=by
 apply List.ext_getElem?;intro j;rw[List.getElem?_map];by_cases d:j<a.length;·exact h.lo j d
 ·rw[h.hi j (by omega),List.getElem?_eq_none (by omega)];rfl
def ntV:Nt->Value
 | .nil=>.nilIface
 | .use i a b m=>.iface 108 (.agg #[I J i,I J a,I J b,ntV m])
 | .pair a b=>.iface 342 (.agg #[ntV a,ntV b])
def zN:Out->Nat
 |none=>0
 |some x=>x.1
def Zm:Out->Nt
 |none=>.nil
 |some x=>x.2
abbrev Q9(r:Out):Value:=.agg #[I J (zN r),.bool r.isSome]
abbrev Qb(r:Out):Value:=.agg #[I J (zN r),.bool r.isSome,ntV (Zm r)]
abbrev Q0(n k:Nat):Value:=.agg #[I J n,I J k]
theorem qL(b:Bool)(n k:Int)(w:World):(Instr.checkKey b 10000 328 (.agg #[I J n,I J k])).run P w=.ok () w:=by kernel_rfl
theorem zeL(a b c d:Int)(w:World):(Op.equal 328 (.agg #[I J a,I J b]) (.agg #[I J c,I J d])).run P w=.ok (a==c&&b==d) w:=by
 unfold Op.equal;rw[show Op.maxDepth=9999+1 from rfl,run_equalIn_agg w 9999 328 _ _ (by kernel_rfl) (by kernel_rfl)];rw[show(prog.fieldsOf 328).toList=[{name:= "expression",type:=3,offset:=0,embedded:=false,tag:= "",pkgPath:= "thicket/match",byteOffset:=0},{name:= "place",type:=3,offset:=1,embedded:=false,tag:= "",pkgPath:= "thicket/match",byteOffset:=8}] by kernel_rfl];have f:∀(x y:Int) (w:World),(part 3 #[I J x,I J y] 0).run P w=.ok (I J x) w:=λ_ _ w=>by kernel_rfl
 have g:∀(x y:Int) (w:World),(part 3 #[I J x,I J y] 1).run P w=.ok (I J y) w:=λ_ _ w=>by kernel_rfl
 have e:∀(x y:Int) (w:World),(Op.equalIn 9999 3 (I J x) (I J y)).run P w=.ok (x==y) w:=λx y w=>run_equalIn_int w 9998 3 J J x y underlying3;simp only[Op.eqFields,Sem.run_bind,Sem.run_ite,f,g,e,Result.andThen_ok,Sem.run_pure];cases (a==c)<;>cases (b==d)<;>simp
abbrev J3:=List ((Nat×Nat)×Out)
def Yb(L:J3):List (Value×Value):=L.map λp=>(Q0 p.1.1 p.1.2,Qb p.2)
def ZK(L:J3)(n k:Nat):Option Out:=(L.find? (λp=>p.1.1==n&&p.1.2==k)).map (·.2)
def Qz(w:World)(c:Nat)(L:J3):Prop:=∃a b,w.heap[c]?=S (.map a b)/\a.toList.map (λx=>(x.key,x.val))=Yb L
theorem ze2(a b:Nat):((a:Int)==(b:Int))=(a==b):=by rw[Bool.eq_iff_iff,beq_iff_eq,beq_iff_eq];omega
theorem zb0(n k:Nat)(w:World):∀(es:List MapEntry) (L:J3) (i:Nat),es.map (λx=>(x.key,x.val))=Yb L->
  (Instr.findAsking 328 (Q0 n k) es i).run prog w=(match ZK L n k with
   |none=>.ok none w
   |some r=>.ok (some (i+L.findIdx (λp=>p.1.1==n&&p.1.2==k),Qb r)) w)
 |[],L,i,h=>by
  have:L=[]:=by
   cases L with
   |nil=>rfl
   |cons a L=>simp[Yb]at h
  subst this
  simp[Instr.findAsking,ZK]
 |e::es,[],i,h=>by simp[Yb]at h
 |e::es,p::L,i,h=>by
  simp only[Yb,List.map_cons,List.cons.injEq,Prod.mk.injEq]at h
  obtain⟨⟨h1,h2⟩,h3⟩:=h
  have ih:=zb0 n k w es L (i+1) h3
  have heq:=zeL (n:Int) (k:Int) (p.1.1:Int) (p.1.2:Int) w
  simp only[Instr.findAsking,Sem.run_bind,h1]
  rw[heq]
  simp only[Result.andThen_ok,ze2]
  have hsw:(n==p.1.1&&k==p.1.2)=(p.1.1==n&&p.1.2==k):=by
   rw[Bool.eq_iff_iff]
   simp only[Bool.and_eq_true,beq_iff_eq]
   constructor<;>rintro⟨a,b⟩<;>exact⟨a.symm,b.symm⟩
  rw[hsw]
  cases hb:(p.1.1==n&&p.1.2==k)with
  |true=>
   simp only[if_true,Sem.run_pure,ZK,List.find?_cons,hb,List.findIdx_cons]
   simp[h2]
  |false=>
   simp only[Bool.false_eq_true,if_false,ZK,List.find?_cons,hb,List.findIdx_cons]
   rw[ih]
   simp only[ZK,cond_false]
   cases hm:Option.map (λx=>x.2) (L.find? (λp=>p.1.1==n&&p.1.2==k))with
   |none=>rfl
   |some r=>
    simp only[]
    rw[show i+1+L.findIdx (λp=>p.1.1==n&&p.1.2==k)=i+(L.findIdx (λp=>p.1.1==n&&p.1.2==k)+1)from by omega]
theorem qW(n k:Nat)(w:World)(b:List MapEntry)(L:J3)(h:b.map (λx=>(x.key,x.val))=Yb L):(Instr.findKey 328 (Q0 n k) b).run P w=(match ZK L n k with|none=>.ok N w|some r=>.ok (S (L.findIdx (λp=>p.1.1==n&&p.1.2==k),Qb r)) w):=by
 unfold Instr.findKey;simp only[Sem.run_bind,run_underlying underlying328,Result.andThen_ok];cases b with
 |nil=>
  have:L=[]:=by
   cases L with
   |nil=>rfl|cons a L=>simp[Yb]at h
  subst this;simp[Instr.findNow,ZK]
 |cons e b=>simp only[Instr.findNow,Instr.sameNow];have:=zb0 n k w (e::b) L 0 h;rw[this];simp
theorem Qz.look{w:World}{f:Nat}{L:J3}(h:Qz w f L)(n k:Nat):(Instr.lookup 174 (.map (S f)) (Q0 n k) true).run P w=.ok (.tuple #[Qb ((ZK L n k).getD N),.bool (ZK L n k).isSome]) w:=by
 obtain⟨b,j,c,g⟩:=h;have i:∀w,(zeroValue 231).run P w=.ok (.agg #[I J 0,.bool false,.nilIface]) w:=λw=>zeroValue231 w;have d:=qL b.isEmpty (n:Int) (k:Int) w;have a:=qW n k w b.toList L g;cases e:ZK L n k with
 |none=>rw[e]at a;simp only[]at a;simp[Instr.lookup,run_underlying underlying174,MapKept.run_getObj_map c,d,a,i,Result.andThen,zN,Zm,ntV]|some r=>rw[e]at a;simp only[]at a;simp[Instr.lookup,run_underlying underlying174,MapKept.run_getObj_map c,d,a,Result.andThen]
abbrev JU(w:World)(b:Nat)(o:Obj):World:={w with heap:=w.heap.setIfInBounds b o}
theorem Qz.put{w:World}{a:Nat}{L:J3}(h:Qz w a L)(n k:Nat)(r:Out)(j:ZK L n k=N):∃o,(Instr.mapUpdate 174 (.map (S a)) (Q0 n k) (Qb r)).run P w=.ok () (JU w a o)/\Qz (JU w a o) a (L++[((n,k),r)]):=by
 obtain⟨c,b,d,f⟩:=h;have g:=qL false (n:Int) (k:Int) w;have e:=qW n k w c.toList L f;rw[j]at e;simp only[]at e;refine⟨.map (c.push {key:=Q0 n k,val:=Qb r,born:=b}) (b+1),?_,(c.push {key:=Q0 n k,val:=Qb r,born:=b}),b+1,?_,?_⟩;·simp[Instr.mapUpdate,run_underlying underlying174,MapKept.run_getObj_map d,g,e,Result.andThen,MapKept.run_setObj_map _ d]
 ·have i:=zd d;show(w.heap.setIfInBounds a _)[a]?=_;rw[Array.getElem?_setIfInBounds_self_of_lt i]
 ·rw[Array.toList_push,List.map_append,f];simp[Yb]
end
abbrev REv:=Nat->Nat->Option (Option Nat)
def Jb(F:REv):List Nat->Nat->Option (Option Nat)
 |[],k=>some (some k)
 |j::js,k=>match F j k with
  |none=>none
  |some none=>some none
  |some (some e)=>Jb F js e
def chR(F:REv):List Nat->Nat->Option (Option Nat)
 |[],_=>some none
 |j::js,k=>match F j k with
  |none=>none
  |some none=>chR F js k
  |some (some e)=>some (some e)
def Zf(F:REv)(j:Nat):Nat->Option Nat->Nat->Option (Option Nat)
 |0,_,_=>none
 |_+1,none,k=>some (some k)
 |c+1,some e,_=>match F j e with
  |none=>none
  |some n=>Zf F j c n e
def Yh(a:z7)(e:RE)(k:Nat):Option Nat:=if e.kind=3 then(if k<a.length then S (k+1)else N)else if e.kind=2 then(match a[k]? with|none=>N|some c=>if Q7 e.items c then S (k+1)else N)else if (e.items.map (·.1)).isPrefixOf (a.drop k)then S (k+e.items.length)else N
def Jq(F:REv)(cnt:Nat)(e:RE)(k:Nat):Option (Option Nat):=
 match F (e.parts.headD 0) k with
 |none=>none
 |some n=>
  if e.kind=7 then some (some (n.getD k))
  else if e.kind=10 then some (if n.isSome then some k else none)
  else if e.kind=11 then some (if n.isSome then none else some k)
  else if e.kind=9/\n=none then some none
  else Zf F (e.parts.headD 0) cnt n k
def QH(c:List z7)(a:List Nat)(b:z7)(F:REv)(cnt:Nat)(e:RE)(k:Nat):Option (Option Nat):=if e.kind<=3 then S (Yh b e k)else if e.kind=4 then F (a.getD (idx0 c e.text) 0) k else if e.kind=5 then Jb F e.parts k else if e.kind=6 then chR F e.parts k else Jq F cnt e k
def okE(a:List z7)(e:RE):Bool:=decide (1<=e.kind)&&decide (e.kind<=11)&&decide (e.items.length<=20)&&(e.kind !=4||a.contains e.text)
def evR(xs:List RE)(names:List z7)(bodies:List Nat)(inp:z7):Nat->REv
 |0,_,_=>none
 |f+1,i,k=>match xs[i]? with
  |none=>none
  |some e=>if okE names e then QH names bodies inp (evR xs names bodies inp f) f e k else none
def Le(F G:REv):Prop:=∀i k v,F i k=S v->G i k=S v
theorem zcB{F G:REv}(h:Le F G):∀a k v,Jb F a k=S v->Jb G a k=S v
 |[],k,v,e=>e
 |j::a,k,v,e=>by
  simp only[Jb]at e|-;cases hF:F j k with
  |none=>rw[hF]at e;cases e
  |some o=>
   rw[h j k o hF];rw[hF]at e;cases o with
   |none=>exact e|some x=>exact zcB h a x v e
theorem zbb{F G:REv}(h:Le F G):∀a k v,chR F a k=S v->chR G a k=S v
 |[],k,v,e=>e
 |j::a,k,v,e=>by
  simp only[chR]at e|-;cases hF:F j k with
  |none=>rw[hF]at e;cases e
  |some o=>
   rw[h j k o hF];rw[hF]at e;cases o with
   |none=>exact zbb h a k v e|some x=>exact e
theorem zcm{F G:REv}(h:Le F G)(j:Nat):∀c d o k v,c<=d->Zf F j c o k=S v->Zf G j d o k=S v
 |0,_,_,_,_,_,e=>by simp[Zf]at e
 |c+1,0,_,_,_,a,_=>by omega
 |c+1,d+1,N,k,v,_,e=>by simpa[Zf]using e
 |c+1,d+1,S x,k,v,a,e=>by
  simp only[Zf]at e|-;cases hF:F j x with
  |none=>rw[hF]at e;cases e|some o=>rw[h j x o hF];rw[hF]at e;exact zcm h j c d o x v (by omega) e
theorem zjE{F G:REv}(h:Le F G){c d:Nat}(j:c<=d){e:RE}{k:Nat}{v:Option Nat}(a:Jq F c e k=S v):Jq G d e k=S v:=by
 unfold Jq at a|-;cases hF:F (e.parts.headD 0) k with
 |none=>rw[hF]at a;cases a
 |some o=>
  rw[h _ _ _ hF];rw[hF]at a;simp only[]at a|-;by_cases g:e.kind=7;·rw[if_pos g]at a|-;exact a
  rw[if_neg g]at a|-;by_cases b:e.kind=10;·rw[if_pos b]at a|-;exact a
  rw[if_neg b]at a|-;by_cases f:e.kind=11;·rw[if_pos f]at a|-;exact a
  rw[if_neg f]at a|-;by_cases i:e.kind=9/\o=N;·rw[if_pos i]at a|-;exact a
  rw[if_neg i]at a|-;exact zcm h _ c d _ _ _ j a
theorem ze9{m:List z7}{b:List Nat}{l:z7}{F G:REv}(h:Le F G){c d:Nat}(n:c<=d){e:RE}{k:Nat}{v:Option Nat}(a:QH m b l F c e k=S v):QH m b l G d e k=S v:=by
 unfold QH at a|-;by_cases f:e.kind<=3;·rw[if_pos f]at a|-;exact a
 rw[if_neg f]at a|-;by_cases g:e.kind=4;·rw[if_pos g]at a|-;exact h _ _ _ a
 rw[if_neg g]at a|-;by_cases i:e.kind=5;·rw[if_pos i]at a|-;exact zcB h _ _ _ a
 rw[if_neg i]at a|-;by_cases j:e.kind=6;·rw[if_pos j]at a|-;exact zbb h _ _ _ a
 rw[if_neg j]at a|-;exact zjE h n a
theorem qO(a:List RE)(d:List z7)(b:List Nat)(c:z7):∀f,Le (evR a d b c f) (evR a d b c (f+1))
 |0=>by intro i k v h;simp[evR]at h
 |f+1=>by
  intro i k v h;simp only[evR]at h|-;cases g:a[i]? with
  |none=>rw[g]at h;cases h
  |some e=>
   rw[g]at h;simp only[]at h|-;split at h;·rename_i j;rw[if_pos j];exact ze9 (qO a d b c f) (Nat.le_succ f) h
   ·cases h
theorem Jz{e:List RE}{c:List z7}{a:List Nat}{b:z7}{f d:Nat}(l:f<=d):Le (evR e c a b f) (evR e c a b d):=by
 induction d with
 |zero=>
  have:f=0:=by omega
  subst this;intro i k v h;exact h
 |succ d j=>
  by_cases h:f=d+1;·subst h;intro i k v h;exact h
  ·intro i k v g;exact qO e c a b d i k v (j (by omega) i k v g)
theorem zbw{h:List RE}{g:List z7}{c:List Nat}{e:z7}{f d i k:Nat}{v u:Option Nat}(j:evR h g c e f i k=S v)(l:evR h g c e d i k=S u):v=u:=by have a:=Jz (Nat.le_max_left f d) i k v j;have b:=Jz (Nat.le_max_right f d) i k u l;rw[a]at b;exact Option.some.inj b
def zaG(a:List RE)(i:Nat)(p:zC)(b:UInt8):Prop:=(if b=0 then zw a i p else∃j,a[i]?=S (zy (zE [b]) j)/\zw a j p)/\(b=0\/b=63\/b=42\/b=43)
def fin(r:Out):Option Nat:=r.map (·.1)
def Sim (xs:List RE) (names:List z7) (bodies:List Nat) (inp:z7):Ex→Nat→Out→Prop
  | .P p,k,r=>∀ i,zw xs i p→∃ f,evR xs names bodies inp f i k=some (fin r)
  | .Q p, k, r => ∀ i, zw xs i p → ∃ f n, (∀ d, f ≤ d → evR xs names bodies inp d i k = some n) ∧ (match r with
      | none=>n=none
      | some (e,_)=>n≠none∧∀ d c x,f≤d→f≤c→Zf (evR xs names bodies inp d) i c n x=some (some e))
  | .I p b,k,r=>∀ i,zaG xs i p b→∃ f,evR xs names bodies inp f i k=some (fin r)
  | .T t,k,r=>∀ i,Zw xs i t→∃ f,evR xs names bodies inp f i k=some (fin r)
  | .S s _,k,r=>∀ is,Z7 xs is s→∃ f,∀ d,f≤d→Jb (evR xs names bodies inp d) is k=some (fin r)
  | .C c,k,r=>∀ is,zZ xs is c→∃ f,∀ d,f≤d→chR (evR xs names bodies inp d) is k=some (fin r)
theorem Y7{d:List RE}{a:List z7}{b:List Nat}{c:z7}{i:Nat}{e:RE}(h:d[i]?=S e)(g:okE a e=true)(f k:Nat):evR d a b c (f+1) i k=QH a b c (evR d a b c f) f e k:=by simp only[evR,h,g,if_true]
theorem zeT(i k:Nat)(r:Out):fin (QZ i k r)=fin r:=by
 cases r with
 |none=>rfl|some x=>obtain⟨e,m⟩:=x;unfold QZ fin;simp only[];split<;>rfl
theorem zbz(a:z7)(k:Nat)(f:UInt8->Bool):fin (Qj a k f)=match a[k]? with|none=>N|some c=>if f c then S (k+1)else N:=by
 unfold Qj fin;cases a[k]? with
 |none=>rfl|some c=>simp only[];split<;>rfl
theorem zcI:zE [63]=7:=by decide
theorem zcG:zE [42]=8:=by decide
theorem zcH:zE [43]=9:=by decide
theorem zcF:zE [38]=10:=by decide
theorem zcE:zE [33]=11:=by decide
theorem UQ(d:List z7){s j:Nat}(e:7<=s/\s<=11):okE d (zy s j)=true:=by
 have c:(s !=4)=true:=by rw[bne_iff_ne];omega
 have a:decide (1<=s)=true:=by rw[decide_eq_true_eq];omega
 have b:decide (s<=11)=true:=by rw[decide_eq_true_eq];omega
 unfold okE zy;simp only[a,b,c];rfl
theorem U0{a:List RE}{d:List z7}{b:List Nat}{c:z7}{i j s:Nat}(h:a[i]?=S (zy s j))(e:7<=s/\s<=11)(f k:Nat):evR a d b c (f+1) i k=Jq (evR a d b c f) f (zy s j) k:=by rw[Y7 h (UQ _ e)];unfold QH;rw[if_neg (by simp only[zy];omega),if_neg (by simp only[zy];omega),if_neg (by simp only[zy];omega),if_neg (by simp only[zy];omega)]
theorem zjC{F:REv}{c j k:Nat}{n:Option Nat}(h:F j k=S n):Jq F c (zy 8 j) k=Zf F j c n k:=by unfold Jq;simp[zy,h]
theorem zjD{F:REv}{c j k:Nat}{n:Option Nat}(h:F j k=S n):Jq F c (zy 9 j) k=if n=N then S N else Zf F j c n k:=by unfold Jq;simp[zy,h]
theorem Ev.sim{g:List ze}{W:z7}{xs:List RE}{K:List (z7×Nat)}(Z:zV xs K g){x:Ex}{k:Nat}{r:Out}(h:Ev g W x k r):Sim xs (K.map (·.1)) (K.map (·.2)) W x k r:=by
 have V:K.map (·.1)=zg g:=zV.names K g Z;induction h with
 |cnil=>intro O hd;simp only[zZ]at hd;subst hd;exact⟨0,λd _=>rfl⟩|@chit s c k x _ w=>intro O hd;simp only[zZ]at hd;obtain⟨q,B,X,rfl,o,u,z⟩:=hd;obtain⟨f,v⟩:=w X u;refine⟨f+1,λd hd=> ?_⟩;obtain⟨D,rfl⟩:∃D,d=D+1:=⟨d-1,by omega⟩;simp only[chR];rw[Y7 o (by simp[okE])];unfold QH;rw[if_neg (by simp),if_neg (by simp),if_pos (by simp)];simp only[];rw[v D (by omega)];rfl
 |@cmiss s c k r _ _ G H=>intro O hd;simp only[zZ]at hd;obtain⟨q,B,X,rfl,o,u,z⟩:=hd;obtain⟨f,v⟩:=G X u;obtain⟨E,F⟩:=H B z;refine⟨max f E+1,λd hd=> ?_⟩;obtain⟨D,rfl⟩:∃D,d=D+1:=⟨d-1,by omega⟩;simp only[chR];rw[Y7 o (by simp[okE])];unfold QH;rw[if_neg (by simp),if_neg (by simp),if_pos (by simp)];simp only[];rw[v D (by omega)];simp only[fin,Option.map_none];exact F (D+1) (by omega)
 |snil=>intro O hd;simp only[Z7]at hd;subst hd;exact⟨0,λd _=>rfl⟩|@sfail t s a0 k _ w=>intro O hd;simp only[Z7]at hd;obtain⟨q,B,rfl,o,u⟩:=hd;obtain⟨f,v⟩:=w q o;refine⟨f,λd hd=> ?_⟩;simp only[Jb];rw[Jz hd _ _ _ v];rfl
 |@sstep t s a0 k e m r _ _ G H=>intro O hd;simp only[Z7]at hd;obtain⟨q,B,rfl,o,u⟩:=hd;obtain⟨f,v⟩:=G q o;obtain⟨E,F⟩:=H B u;refine⟨max f E,λd hd=> ?_⟩;simp only[Jb];rw[Jz (show f<=d by omega) _ _ _ v];exact F d (by omega)
 |@tplain p b k r _ w=>
  intro i hd;simp only[Zw]at hd;obtain⟨R,j,o,u,z,L,Y⟩:=hd;rw[if_pos trivial]at o;subst o;refine w i ⟨?_,L⟩;by_cases y:b=0;·rw[if_pos y]at u|-;subst u;exact z
  ·rw[if_neg y]at u|-;exact⟨j,u,z⟩
 |@tand p b k r _ w=>
  intro i hd;simp only[Zw]at hd;obtain⟨R,j,o,u,z,L,Y⟩:=hd;rw[if_neg (by decide)]at o;obtain⟨f,v⟩:=w R ⟨by
   by_cases y:b=0;·rw[if_pos y]at u|-;subst u;exact z
   ·rw[if_neg y]at u|-;exact⟨j,u,z⟩,L⟩
  rw[zcF]at o;refine⟨f+1,?_⟩;rw[U0 o ⟨by omega,by omega⟩];unfold Jq;simp only[zy,List.headD_cons];rw[v];simp only[];rw[if_neg (by decide)];simp only[if_true];unfold Ja fin;cases r<;>simp
 |@tnot p b k r _ w=>
  intro i hd;simp only[Zw]at hd;obtain⟨R,j,o,u,z,L,Y⟩:=hd;rw[if_neg (by decide)]at o;obtain⟨f,v⟩:=w R ⟨by
   by_cases y:b=0;·rw[if_pos y]at u|-;subst u;exact z
   ·rw[if_neg y]at u|-;exact⟨j,u,z⟩,L⟩
  rw[zcE]at o;refine⟨f+1,?_⟩;rw[U0 o ⟨by omega,by omega⟩];unfold Jq;simp only[zy,List.headD_cons];rw[v];simp only[];rw[if_neg (by decide),if_neg (by decide)];simp only[if_true];unfold Ja fin;cases r<;>simp
 |iplain _ w=>intro i hd;have:=hd.1;rw[if_pos rfl]at this;exact w i this|@imaybe p k r _ w=>intro i hd;have:=hd.1;rw[if_neg (by decide)]at this;obtain⟨j,o,u⟩:=this;obtain⟨f,v⟩:=w j u;rw[zcI]at o;refine⟨f+1,?_⟩;rw[U0 o ⟨by omega,by omega⟩];unfold Jq;simp only[zy,List.headD_cons];rw[v];simp only[if_true];unfold Kg fin;cases r<;>simp
 |@istar p k r _ w=>
  intro i hd;have:=hd.1;rw[if_neg (by decide)]at this;obtain⟨j,o,u⟩:=this;obtain⟨f,n,v,A⟩:=w j u;rw[zcG]at o;refine⟨f+1+1,?_⟩;rw[U0 o ⟨by omega,by omega⟩,zjC (v (f+1) (by omega))];unfold Kg fin;cases r with
  |none=>simp only[]at A;subst A;simp[Zf]|some x=>obtain⟨e,m⟩:=x;simp only[]at A;rw[A.2 (f+1) (f+1) k (by omega) (by omega)];simp
 |@iplus p k r _ w=>
  intro i hd;have:=hd.1;rw[if_neg (by decide)]at this;obtain⟨j,o,u⟩:=this;obtain⟨f,n,v,A⟩:=w j u;rw[zcH]at o;refine⟨f+1+1,?_⟩;rw[U0 o ⟨by omega,by omega⟩,zjD (v (f+1) (by omega))];unfold fin;cases r with
  |none=>simp only[]at A;subst A;simp|some x=>obtain⟨e,m⟩:=x;simp only[]at A;rw[if_neg A.1,A.2 (f+1) (f+1) k (by omega) (by omega)];simp
 |qno _ w=>intro i hd;obtain⟨f,v⟩:=w i hd;exact⟨f,N,λd h=>Jz h _ _ _ v,rfl⟩
 |@qlast p k e m _ _ G H=>intro i hd;obtain⟨f,v⟩:=G i hd;obtain⟨E,n2,F,M⟩:=H i hd;simp only[]at M;subst M;refine⟨max f E+2,S e,λd h=>Jz (by omega) _ _ _ v,by simp,?_⟩;intro d c x o u;obtain⟨J,rfl⟩:∃J,c=J+1+1:=⟨c-2,by omega⟩;simp only[Zf];rw[F d (by omega)];simp[Zf]
 |@qmore p k e m e2 m2 _ _ G H=>intro i hd;obtain⟨f,v⟩:=G i hd;obtain⟨E,n2,F,M⟩:=H i hd;simp only[]at M;refine⟨max f E+1,S e,λd h=>Jz (by omega) _ _ _ v,by simp,?_⟩;intro d c x o u;obtain⟨J,rfl⟩:∃J,c=J+1:=⟨c-1,by omega⟩;simp only[Zf];rw[F d (by omega)];exact M.2 d J e (by omega) (by omega)
 |@pname b k r a1 hc _ w=>intro i hd;simp only[zw]at hd;have y:=((zV.get K g Z).2 _ a1).2;simp only[zw]at y;obtain⟨B,a2,a3⟩:=y;obtain⟨f,v⟩:=w B a3;refine⟨f+1+1,?_⟩;rw[Y7 hd (by rw[V];simp[okE]at hc|-;exact hc)];unfold QH;rw[if_neg (by simp),if_pos (by simp)];simp only[];rw[V,Y7 a2 (by simp[okE])];unfold QH;rw[if_neg (by simp),if_neg (by simp),if_neg (by simp),if_pos (by simp)];simp only[];rw[zeT, <-V];exact v f (Nat.le_refl _)
 |@plit b k y=>
  intro i hd;simp only[zw]at hd;refine⟨1,?_⟩;rw[Y7 hd (by simp[okE];exact y)];unfold QH;rw[if_pos (by simp)];unfold Yh Ya fin;rw[if_neg (by simp),if_neg (by simp)];simp only[List.map_map,List.length_map];have:List.map ((λx:zR=>x.1)∘ λc=>(c,c)) b=b:=by
   conv=>rhs;rw[<-List.map_id b]
   apply List.map_congr_left;intro a _;rfl
  rw[this];split<;>rfl
 |@pcls l k y=>intro i hd;simp only[zw]at hd;refine⟨1,?_⟩;rw[Y7 hd (by simp[okE];exact y),zbz];unfold QH;rw[if_pos (by simp)];unfold Yh;rw[if_neg (by simp),if_pos (by simp)]
 |@pany k=>
  intro i hd;simp only[zw]at hd;refine⟨1,?_⟩;rw[Y7 hd (by simp[okE]),zbz];unfold QH;rw[if_pos (by simp)];unfold Yh;rw[if_pos (by simp)];by_cases U:k<W.length;·rw[if_pos U,List.getElem?_eq_getElem U];rfl
  ·rw[if_neg U,List.getElem?_eq_none (by omega)]
 |@pgroup c k r _ w=>intro i hd;simp only[zw]at hd;obtain⟨B,o,u⟩:=hd;obtain⟨f,v⟩:=w B u;refine⟨f+1,?_⟩;rw[Y7 o (by simp[okE])];unfold QH;rw[if_neg (by simp),if_neg (by simp),if_neg (by simp),if_pos (by simp)];exact v f (Nat.le_refl _)
section
open Go.RowKit
attribute [local go_sem ↓] Go.wp_at_zero Go.wp_at_succ
theorem Ints.gen{w:World}{B:Nat}{v:Value}{a:List Nat}(h:Ints w B v a):∃e n,v=.slice e a.length n/\a.length<=9223372036854775807/\∀j (b:j<a.length),∃c,e=S ⟨c,0,N⟩/\c<w.heap.size/\w.cell? ⟨c,j,N⟩=S (I J a[j]):=by
 have i:=h;rcases i.2 with⟨rfl,k⟩|⟨d,f,o,rfl,_,m,p,l,_⟩;·exact⟨N,0,by rw[k],by omega,λj b=>by omega⟩
 ·refine⟨_,f,rfl,by unfold maxLen at l;omega,λj b=>⟨d,rfl,za m,?_⟩⟩;have:=h.cellAt (g:=d) j (by omega);rw[this];simp[b,Zq]
theorem KU{names:List z7}{e:RE}(a:e.kind=4):rfE names e 0=if names.contains e.text then((names.idxOf e.text:Nat):Int)else -1:=by unfold rfE rf;rw[if_pos a];simp
structure K5(ps:List (RE×Value×Value))(rs:List (z7×Nat)):Prop where
 ex:∀p∈ps,p.1.Fit ps.length
 ru:∀r∈rs,r.2<ps.length
abbrev zK(a:List (RE×Value×Value)):List RE:=a.map (·.1)
abbrev zj(a:List (z7×Nat)):List z7:=a.map (·.1)
abbrev Zp(a:List (z7×Nat)):List Nat:=a.map (·.2)
theorem GM.exp{w:World}{B z:Nat}{y L:Value}{a:List (RE×Value×Value)}{K:List (z7×Nat)}{c:List z7}(h:GM w B z y L (a.map (ZY c)) K){i:Nat}(g:i<a.length):∃(p:RE×Value×Value) (b o:Nat) (k:Option Addr) (l:Nat) (d:Option Addr) (m:Nat),a[i]?=S p/\p∈a/\y=.slice (S ⟨b,0,N⟩) a.length o/\b<w.heap.size/\w.cell? ⟨b,i *5,N⟩=S (I J p.1.kind)/\w.cell? ⟨b,i *5+1,N⟩=S (.slice k p.1.items.length l)/\w.cell? ⟨b,i *5+2,N⟩=S (.string ⟨p.1.text.toArray⟩)/\w.cell? ⟨b,i *5+3,N⟩=S (I J (rfE c p.1 0))/\w.cell? ⟨b,i *5+4,N⟩=S (.slice d p.1.parts.length m)/\a.length<=9223372036854775807/\p.1.parts.length<=9223372036854775807/\∀j (M:j<p.1.parts.length),∃n,d=S ⟨n,0,N⟩/\n<w.heap.size/\w.cell? ⟨n,j,N⟩=S (I J p.1.parts[j]):=by
 obtain⟨b,o,rfl,O,H,v⟩:=h.exAt (by simp;omega);have t:i<(a.map (ZY c)).length:=by simpa using g
 obtain⟨q,e,r,s,f⟩:=h.exCells.2 i t;have x:a[i]∈a:=List.getElem_mem g;have E:(a.map (ZY c))[i]'t=ZY c a[i]:=by rw[List.getElem_map]
 rw[E]at q e r s f;have u:ZY c a[i]∈a.map (ZY c):=List.mem_map_of_mem x;obtain⟨k,l,F⟩:=zl (h.items _ u);obtain⟨d,m,G,D,A⟩:=(h.parts _ u).gen;rw[F]at e;rw[G]at f;refine⟨a[i],b,o,k,l,d,m,List.getElem?_eq_getElem g,x,by rw[List.length_map],H,q,e,r,s,f,by unfold maxLen at v;simp at v;omega,D,A⟩
theorem Y4{w:World}{lb:Nat}{l:List Bool}(h:w.heap[lb]?=S (zH l))(j:Nat)(a:j<l.length):w.cell? ⟨lb,j,N⟩=S (.bool (l.getD j false)):=by rw[z8 h];simp[a,List.getD_eq_getElem?_getD]
end
def znf(m:z7)(c:UInt8):z7:=if c=10 then[92,110]else if c=9 then[92,116]else if c=92\/m.contains c=true then[92,c]else[c]
def zng(m:z7)(s:zR):z7:=znf m s.1++(if s.2=s.1 then[]else 45::znf m s.2)
def znr(b:z7):z7:=39::(b.flatMap (znf [39])++[39])
def znv(l:List zR):z7:=91::(l.flatMap (zng [93,45])++[93])
def zne(b:UInt8):z7:=if b=0 then[]else[b]
mutual
def prP:zC->Bool->z7
  | .name b,_=>b
  | .lit b,_=>znr b
  | .cls l,_=>znv l
  | .any,_=>[46]
  | .group [[]],_=>[40,41]
  | .group [[.mk a p b]],sg=>if a=0/\b=0 then prP p sg else if sg then 40::(prT (.mk a p b)++[41])else prT (.mk a p b)
  | .group c,_=>40::(prC c++[41])
def prT:Term->z7
  | .mk a p b=>zne a++(prP p (a !=0||b !=0)++zne b)
def prS:List Term->z7
  |[]=>[]
  |[t]=>prT t
  |t::s=>prT t++(32::prS s)
def znd:List Term->z7
  |[]=>[40,41]
  |s=>prS s
def prC:List (List Term)->z7
  |[]=>[]
  |[s]=>znd s
  |s::c=>znd s++([32,47,32]++prC c)
 end
section
open Go.RowKit
attribute [local go_sem ↓] Go.wp_at_zero Go.wp_at_succ
theorem zoF(c:UInt8)(w:World):(convert 117 9 (.slice (S ⟨w.heap.size,0,N⟩) 1 1)).run prog (w.alloc (.cells #[I .u8 c.toNat] 5))=.ok (.string ⟨#[c]⟩) (w.alloc (.cells #[I .u8 c.toNat] 5)):=by
 have h:=run_convert_bytes_back (P:=prog) (w.alloc (.cells #[I .u8 c.toNat] 5)) 117 9 5 ⟨w.heap.size,0,N⟩ 1 [c] underlying117 underlying5 underlying9 (by
  intro j a;have e:j=0:=by simp at a;omega
  subst e;exact z8 (zk w _) 0)
 exact h
theorem ztk(c:UInt8)(m:ByteArray)(w:World)(v:m.size<=2000):Calls P 189 #[I .u8 c.toNat,.string m] w λe z=>e=.returned (.string ⟨(znf m.data.toList c).toArray⟩)/\Below w.heap.size w z:=by
 have p:=λr g=>VO m c r w v g;obtain⟨r,g⟩:∃r,m.data.toList.contains c=r:=⟨_,rfl⟩;have b:=p r g;clear p;by_cases h:c=10;·subst h;go_enter func189,ntmps189;go_wp2_with fail;refine b.mono ?_;rintro _ k⟨rfl,a⟩;replace a:=a.symm;subst a;clear b;go_wp2_with fail;go_ret;exact⟨rfl,Below.refl _ _⟩
 ·have n:¬(c.toNat:Int)=10:=by intro e;apply h;apply UInt8.toNat_inj.1;simpa using(by omega:c.toNat=10)
  have q:((c.toNat:Int)==10)=false:=by simpa using n
  by_cases i:c=9;·subst i;go_enter func189,ntmps189;go_wp2_with fail;refine b.mono ?_;rintro _ k⟨rfl,a⟩;replace a:=a.symm;subst a;clear b;go_wp2_with fail;go_ret;exact⟨rfl,Below.refl _ _⟩
  ·have o:¬(c.toNat:Int)=9:=by intro e;apply i;apply UInt8.toNat_inj.1;simpa using(by omega:c.toNat=9)
   have t:((c.toNat:Int)==9)=false:=by simpa using o
   have u:=zoF c w;by_cases d:c=92\/m.data.toList.contains c=true
   ·have j:znf m.data.toList c=[92,c]:=by unfold znf;rw[if_neg h,if_neg i,if_pos d]
    by_cases f:c=92;·subst f;rw[j];rw[show(((92:UInt8).toNat:Nat):Int)=92 from rfl]at u;go_enter func189,ntmps189;go_wp2_with fail;refine b.mono ?_;rintro _ k⟨rfl,a⟩;replace a:=a.symm;subst a;clear b n q o t;go_wp2_with fail;go_ret;exact⟨rfl,zc _ _⟩
    ·have l:¬(c.toNat:Int)=92:=by intro e;apply f;apply UInt8.toNat_inj.1;simpa using(by omega:c.toNat=92)
     have s:((c.toNat:Int)==92)=false:=by simpa using l
     have y:r=true:=by rw[<-g];exact d.resolve_left f
     subst y;rw[j];go_enter func189,ntmps189;go_wp2_with fail;refine b.mono ?_;rintro _ k⟨rfl,a⟩;replace a:=a.symm;subst a;clear b;go_wp2_with fail;go_ret;exact⟨rfl,zc _ _⟩
   ·have j:znf m.data.toList c=[c]:=by unfold znf;rw[if_neg h,if_neg i,if_neg d]
    have f:¬c=92:=λe=>d (.inl e);have l:¬(c.toNat:Int)=92:=by intro e;apply f;apply UInt8.toNat_inj.1;simpa using(by omega:c.toNat=92)
    have s:((c.toNat:Int)==92)=false:=by simpa using l
    have x:r=false:=by
     cases r with
     |false=>rfl|true=>exact absurd (.inr g) d
    subst x;rw[j];go_enter func189,ntmps189;go_wp2_with fail;refine b.mono ?_;rintro _ k⟨rfl,a⟩;replace a:=a.symm;subst a;clear b;go_wp2_with fail;go_ret;exact⟨rfl,zc _ _⟩
theorem q6(a:List zR)(i j:Nat)(b:i<a.length)(e:j<2):(a.flatMap ZO)[i *2+j]?=(ZO a[i])[j]?:=by
 induction a generalizing i with
 |nil=>simp at b
 |cons p a d=>
  have c:(ZO p).length=2:=rfl;cases i with
  |zero=>simp only[List.flatMap_cons,Nat.zero_mul,Nat.zero_add,List.getElem_cons_zero];rw[List.getElem?_append_left (by omega)]|succ i=>simp only[List.flatMap_cons,List.getElem_cons_succ];rw[List.getElem?_append_right (by omega),c,show(i+1) *2+j-2=i *2+j from by omega];exact d i (by simpa using b)
theorem Items.gen{w:World}{B:Nat}{v:Value}{a:List zR}(h:Items w B v a):∃e m,v=.slice e a.length m/\∀j (b:j<a.length),∃c,e=S ⟨c,0,N⟩/\c<w.heap.size/\w.cell? ⟨c,j *2,N⟩=S (I .u8 a[j].1.toNat)/\w.cell? ⟨c,j *2+1,N⟩=S (I .u8 a[j].2.toNat):=by
 have i:=h;rcases i.2 with⟨rfl,k⟩|⟨d,f,n,rfl,_,l,o,p,_⟩;·exact⟨N,0,by rw[k],λj b=>by omega⟩
 ·refine⟨_,f,rfl,λj b=>⟨d,rfl,za l,?_,?_⟩⟩;·have:=h.cellAt (g:=d) (j *2+0) (by omega);rw[q6 _ _ _ b (by decide)]at this;exact this
  ·have:=h.cellAt (g:=d) (j *2+1) (by omega);rw[q6 _ _ _ b (by decide)]at this;exact this
theorem znw(m:z7)(c:UInt8):(znf m c).length<=2:=by
 unfold znf;repeat' split
 all_goals simp
theorem zqk(m:z7)(s:zR):(zng m s).length<=5:=by
 unfold zng;have a:=znw m s.1;have b:=znw m s.2;split;·simp;omega
 ·simp;omega
theorem zpc(m:z7)(l:List zR):(l.flatMap (zng m)).length<=5 *l.length:=by
 induction l with
 |nil=>simp|cons s l a=>have:=zqk m s;rw[List.flatMap_cons,List.length_append,List.length_cons];omega
theorem zpx(a b:z7):(ByteArray.mk a.toArray)++(ByteArray.mk b.toArray)=ByteArray.mk (a++b).toArray:=by apply ByteArray.ext;simp
theorem ztj(w:World)(B:Nat)(v:Value)(b:List zR)(m:ByteArray)(h:Items w B v b)(z:m.size<=2000)(hl:b.length<=250000):Calls P 172 #[v,.string m] w λe X=>e=.returned (.string ⟨(b.flatMap (zng m.data.toList)).toArray⟩)/\Below w.heap.size w X:=by
 obtain⟨pa,pc,rfl,L⟩:=h.gen;clear h;go_enter func172,ntmps172;go_wp2_with fail;go_loopg[5,6] b.length (λk V U wr=>∃i:Nat,k=b.length-i/\V=.string ⟨((b.take i).flatMap (zng m.data.toList)).toArray⟩/\U=I J i/\i<=b.length/\Hid (Below w.heap.size w wr));case atStart=>exact⟨0,by omega,rfl,rfl,by omega,Below.refl _ _⟩
 case round=>
  obtain⟨i,rfl,rfl,rfl,hi,d⟩:=hrel;by_cases y:i<b.length
  ·have M:(i:Int)<b.length:=by omega
   obtain⟨c,rfl,A,q,s⟩:=L i y;have r:wr.cell? ⟨c,i *2,N⟩=S (I .u8 b[i].1.toNat):=by rw[World.cell?_of_block (a:=⟨c,_,N⟩) (d.out.block c A)];exact q
   have t:wr.cell? ⟨c,i *2+1,N⟩=S (I .u8 b[i].2.toNat):=by rw[World.cell?_of_block (a:=⟨c,_,N⟩) (d.out.block c A)];exact s
   have D:=ztk b[i].1 m wr z;have a0:(ByteArray.mk ((b.take i).flatMap (zng m.data.toList)).toArray).size<=1250000:=by have:=zpc m.data.toList (b.take i);rw[List.length_take]at this;show((b.take i).flatMap (zng m.data.toList)).toArray.size<=_;simp only[List.size_toArray];omega
   have a1:(ByteArray.mk (znf m.data.toList b[i].1).toArray).size<=2:=by show(znf m.data.toList b[i].1).toArray.size<=_;simp only[List.size_toArray];exact znw _ _
   clear q s;go_wp2_with fail;refine D.mono ?_;rintro _ o⟨rfl,g⟩;have j:Hid (Below w.heap.size w o):=d.out.trans (g.mono d.out.size);have Z:o.cell? ⟨c,i *2,N⟩=S (I .u8 b[i].1.toNat):=by rw[World.cell?_of_block (a:=⟨c,_,N⟩) (g.block c (by have:=d.out.size;omega))];exact r
   have d1:o.cell? ⟨c,i *2+1,N⟩=S (I .u8 b[i].2.toNat):=by rw[World.cell?_of_block (a:=⟨c,_,N⟩) (g.block c (by have:=d.out.size;omega))];exact t
   have F:b.take (i+1)=b.take i++[b[i]]:=List.take_succ_eq_append_getElem y;have p:=z6 F;clear F g D r t;by_cases f:b[i].2=b[i].1
   ·have O:((b[i].2.toNat:Int)!=(b[i].1.toNat:Int))=false:=by rw[f];simp
    have n:Hid ((ByteArray.mk ((b.take i).flatMap (zng m.data.toList)).toArray)++(ByteArray.mk (znf m.data.toList b[i].1).toArray)=ByteArray.mk ((b.take (i+1)).flatMap (zng m.data.toList)).toArray):=by show _=_;rw[zpx,p.out,List.flatMap_append];congr 3;simp[zng,f]
    clear f;go_wp2_with fail;go_quiet(fail);go_wp2_with fail;go_roundg (b.length-(i+1));case measure=>omega
    case rel=>exact⟨i+1,rfl,congrArg Value.string n.out,by go_num,by omega,below_drewN j.out _⟩
   ·have O:((b[i].2.toNat:Int)!=(b[i].1.toNat:Int))=true:=by rw[bne_iff_ne];intro e;apply f;apply UInt8.toNat_inj.1;omega
    have E:=λW=>ztk b[i].2 m W z;have a2:(ByteArray.mk (znf m.data.toList b[i].2).toArray).size<=2:=by show(znf m.data.toList b[i].2).toArray.size<=_;simp only[List.size_toArray];exact znw _ _
    have n:Hid (((ByteArray.mk ((b.take i).flatMap (zng m.data.toList)).toArray++ByteArray.mk (znf m.data.toList b[i].1).toArray)++⟨#[45]⟩)++ByteArray.mk (znf m.data.toList b[i].2).toArray=ByteArray.mk ((b.take (i+1)).flatMap (zng m.data.toList)).toArray):=by show _=_;rw[zpx,show(ByteArray.mk #[45])=ByteArray.mk ([45]:z7).toArray from rfl,zpx,zpx,p.out,List.flatMap_append];congr 2;simp[zng,f]
    have K:=z6 E;have a3:(ByteArray.mk ((b.take i).flatMap (zng m.data.toList)).toArray++ByteArray.mk (znf m.data.toList b[i].1).toArray).size<=1250002:=by rw[ByteArray.size_append];omega
    have R:(ByteArray.mk #[45]).size=1:=rfl;have a4:((ByteArray.mk ((b.take i).flatMap (zng m.data.toList)).toArray++ByteArray.mk (znf m.data.toList b[i].1).toArray)++⟨#[45]⟩).size<=1250003:=by rw[ByteArray.size_append,R];omega
    clear f E;go_wp2_with fail;go_quiet(fail);go_wp2_with fail;refine(K.out _).mono ?_;rintro _ Y⟨rfl,u⟩;have G:Hid (Below w.heap.size w Y):=(below_drewN j.out _).trans (u.mono j.out.size);clear u;go_wp2_with fail;go_roundg (b.length-(i+1));case measure=>omega
    case rel=>exact⟨i+1,rfl,congrArg Value.string n.out,by go_num,by omega,G⟩
  ·have M:¬(i:Int)<b.length:=by omega
   have x:b.take i=b:=List.take_of_length_le (by omega);have H:=z6 x;clear x;go_wp2_with fail;go_ret;exact⟨congrArg (λl=>Ending.returned (Value.string ⟨(List.flatMap (zng m.data.toList) l).toArray⟩)) H.out,d.out⟩
end
def zat(t:Tok):Prop:=t.text.length<=20/\t.spans.length<=20
def Small(a:List Tok):Prop:=∀t∈a,zat t
mutual
def wtP:zC->Nat
  | .name b=>b.length
  | .lit b=>2+2 *b.length
  | .cls l=>2+5 *l.length
  | .any=>1
  | .group c=>2+wtC c
def wtT:Term->Nat
  | .mk _ p _=>2+wtP p
def wtS:List Term->Nat
  |[]=>2
  |t::s=>1+wtT t+wtS s
def wtC:List (List Term)->Nat
  |[]=>1000000
  |[s]=>3+wtS s
  |s::c=>3+wtS s+wtC c
 end
theorem zjF(s:List Term)(c:List (List Term)):wtC (s::c)<=3+wtS s+wtC c:=by
 cases c with
 |nil=>simp only[wtC];omega|cons a c=>simp only[wtC];omega
theorem Small.tail{a:List Tok}(h:Small a):Small a.tail:=λt b=>h t (List.mem_of_mem_tail b)
theorem Small.ahead{a:List Tok}(h:Small a):Small (Z9 a).2:=by
 unfold Z9;repeat' split
 all_goals first|exact h|exact h.tail
theorem Small.behind{a:List Tok}(h:Small a):Small (Zg a).2:=by
 unfold Zg;repeat' split
 all_goals first|exact h|exact h.tail
def WP1(b:List Tok)(r:Res zC):Prop:=Small b->∀p a,r=.ok p a->wtP p+200 *a.length+50<=200 *b.length/\Small a
def WP2(b:List Tok)(r:Res Term):Prop:=Small b->∀p a,r=.ok p a->wtT p+200 *a.length+40<=200 *b.length/\Small a
def WP3(b:List Tok)(r:Res Seq):Prop:=Small b->∀p a,r=.ok p a->wtS p+200 *a.length<=200 *b.length+2/\Small a
def WP4(b:List Tok)(r:Res Z5):Prop:=Small b->∀p a,r=.ok p a->wtC p+200 *a.length<=200 *b.length+10/\Small a
theorem za2{a:List Tok}{c:UInt8}(h:(hd a).kind=.sign c):1<=a.length:=by
 cases a with
 |nil=>simp[hd,zB]at h|cons t a=>simp
theorem zjB{a:List Tok}{p:zC}(h:zU (hd a)=S p):WP1 a (.ok p a.tail):=by
 intro b g i e;cases e;cases a with
 |nil=>simp[hd,zU,zB]at h
 |cons t a=>
  have c:=b t (by simp);obtain⟨d,f⟩:=c;refine⟨?_,b.tail⟩;simp only[hd,List.headD_cons]at h;unfold zU at h;split at h;·cases h;simp[wtP];omega
  ·cases h;simp[wtP];omega
  ·cases h;simp[wtP];omega
  ·split at h;·cases h;simp[wtP];omega
   ·cases h
  ·cases h
theorem Z8.wt{d:Nat}{b:List Tok}{c:Z5}{f:List Tok}(h:Z8 d b (.ok c f))(a:Small b):wtC c+200 *f.length<=200 *b.length+10/\Small f:=by
 refine(Z8.rec (motive_1:=λ_ b r _=>WP1 b r) (motive_2:=λ_ b r _=>WP2 b r) (motive_3:=λ_ b r _=>WP3 b r) (motive_4:=λ_ b r _=>WP4 b r) ?_ ?_ ?_ ?_ ?_ ?_ ?_ ?_ ?_ ?_ ?_ ?_ ?_ ?_ ?_ ?_ h:WP4 b (.ok c f)) a c f rfl;·intro d b p h;exact zjB h
 ·intro d b h y a p f e;cases e
 ·intro b h a p f e;cases e
 ·intro d b c f i j u v l a p q e;cases e;obtain⟨k,g⟩:=l a.tail _ _ rfl;have x:=za2 i;have A:=za2 v;refine⟨?_,g.tail⟩;simp only[wtP,List.length_tail]at k|-;omega
 ·intros;intro a p f e;cases e
 ·intros;intro a p f e;cases e
 ·intro d b p f h l a t q e;cases e;obtain⟨k,g⟩:=l a.ahead _ _ rfl;have i:=zaW b;have j:=zb3 f;refine⟨?_,g.behind⟩;simp only[wtT];omega
 ·intros;intro a p f e;cases e
 ·intro d b h a p f e;cases e;refine⟨?_,a⟩;simp only[wtS];omega
 ·intro d b t f s q i j u m n a p r e;cases e;obtain⟨k,g⟩:=m a _ _ rfl;obtain⟨w,o⟩:=n g _ _ rfl;refine⟨?_,o⟩;simp only[wtS];omega
 ·intros;intro a p f e;cases e
 ·intros;intro a p f e;cases e
 ·intro d b s f i j l a p r e;cases e;obtain⟨k,g⟩:=l a _ _ rfl;refine⟨?_,g⟩;simp only[wtC];omega
 ·intro d b s f c q i j u m n a p r e;cases e;obtain⟨k,g⟩:=m a _ _ rfl;obtain⟨w,o⟩:=n g.tail _ _ rfl;have x:=za2 j;refine⟨?_,o⟩;have z:=zjF s c;simp only[List.length_tail]at *;omega
 ·intros;intro a p f e;cases e
 ·intros;intro a p f e;cases e
theorem zbl{l:z7}{n:Nat}{m:UInt8}{k:Nat}(h:ZX l n m k=true):k<=20:=by unfold ZX at h;simp at h;omega
theorem zjb(l:z7):zat (zM l):=by
 have a:zat zB:=⟨by simp[zB],by simp[zB]⟩;cases l with
 |nil=>exact⟨by simp[zM],by simp[zM]⟩
 |cons c t=>
  simp only[zM];split
  ·unfold Ql;split;·exact a
   ·refine⟨?_,by simp⟩;rw[List.length_take];omega
  ·split;·exact⟨by simp,by simp⟩
   ·split
    ·unfold Qv;split;·rename_i h;exact⟨zbl h,by simp⟩
     ·exact a
    ·split
     ·unfold QB;split;·rename_i h;exact⟨by simp,zbl h⟩
      ·exact a
     ·split;·exact⟨by simp,by simp⟩
      ·exact a
theorem zdd:∀(f b:Nat) (l:z7),Small (QC f b l)
 |0,_,_=>by intro t a;simp[QC]at a
 |f+1,b,l=>by
  intro t a;simp only[QC,List.mem_cons]at a;rcases a with rfl|a;·exact zjb _
  ·split at a;·simp at a
   ·exact zdd f _ _ t a
theorem ZV.wt{n:Nat}{a:List Tok}{r:ze}{b:List Tok}(h:ZV n a (.ok r b))(d:Small a):wtC r.choice<=200 *a.length+10/\r.name.length<=20/\b.length<=a.length/\Small b:=by
 cases h with
 |ok i _ _ c=>
  obtain⟨f,g⟩:=c.wt d.tail.tail;have e:=c.nc;simp only[List.length_tail]at f e;refine⟨by simp only[];omega,?_,by omega,g⟩;cases a with
  |nil=>simp[hd,zB]|cons t a=>simp only[hd,List.headD_cons];exact(d t (by simp)).1
theorem ZU.wt{n:Nat}{e:List Tok}{g:List ze}(h:ZU n e (.ok g))(f:Small e):∀r∈g,wtC r.choice<=200 *e.length+10/\r.name.length<=20:=by
 generalize c:(Except.ok g:Except (Nat×Nat) (List ze))=k at h;induction h generalizing g with
 |last b i=>cases c;intro r a;simp only[List.mem_singleton]at a;subst a;have:=b.wt f;exact⟨this.1,this.2.1⟩
 |more b i _ j=>
  cases c;intro r a;have d:=b.wt f;rcases List.mem_cons.1 a with rfl|a;·exact⟨d.1,d.2.1⟩
  ·have:=j d.2.2.2 rfl r a;omega
 |err b=>cases c|later _ _ _ _=>cases c
theorem zf6{l:z7}{g:List ze}(h:ZU 0 (Qn l) (.ok g))(d:l.length<=2000):∀r∈g,wtC r.choice<=500000/\r.name.length<=20:=by intro r a;have b:=h.wt (zdd _ _ _) r a;have c:=zdf l;omega
theorem zo4(b:UInt8):(zne b).length<=1:=by unfold zne;split<;>simp
theorem zpM(b:z7):(znr b).length<=2+2 *b.length:=by
 unfold znr;have h:(b.flatMap (znf [39])).length<=2 *b.length:=by
  induction b with
  |nil=>simp|cons c b a=>have:=znw [39] c;rw[List.flatMap_cons,List.length_append,List.length_cons];omega
 rw[List.length_cons,List.length_append,List.length_singleton];omega
theorem zpE(l:List zR):(znv l).length<=2+5 *l.length:=by unfold znv;have h:=zpc [93,45] l;rw[List.length_cons,List.length_append,List.length_singleton];omega
theorem znQ(c:List (List Term))(f:Bool)(h:∀a p b,c≠[[.mk a p b]])(d:c≠[[]]):prP (.group c) f=40::(prC c++[41]):=by
 rw[prP.eq_def];split;·rename_i e;cases e
 ·rename_i e;cases e
 ·rename_i e;cases e
 ·rename_i e;cases e
 ·rename_i e;cases e;exact absurd rfl d
 ·rename_i e;cases e;exact absurd rfl (h _ _ _)
 ·rename_i e;cases e;rfl
mutual
theorem zom:∀(p:zC) (sg:Bool),(prP p sg).length<=wtP p
  | .name b,sg=>by simp[prP,wtP]
  | .lit b,sg=>by simp only[prP,wtP];exact zpM b
  | .cls l,sg=>by simp only[prP,wtP];exact zpE l
  | .any,sg=>by simp[prP,wtP]
  | .group [[.mk a p b]],sg=>by
    have h1:=zo1 (.mk a p b)
    have h2:=zom p sg
    simp only[prP,wtP,wtC,wtS,wtT]at *
    split
    · omega
    · split
      · rw[List.length_cons,List.length_append,List.length_singleton];omega
      · omega
  | .group [],sg=>by rw[znQ _ _ (by simp) (by simp)];simp[prC,wtP,wtC]
  | .group [[]],sg=>by simp[prP,wtP,wtC,wtS]
  | .group ([]::s2::c),sg=>by
    have:=znJ ([]::s2::c)
    rw[znQ _ _ (by simp) (by simp),List.length_cons,List.length_append,List.length_singleton]
    simp only[wtP];omega
  | .group ((t::t2::s)::c),sg=>by
    have:=znJ ((t::t2::s)::c)
    rw[znQ _ _ (by simp) (by simp),List.length_cons,List.length_append,List.length_singleton]
    simp only[wtP];omega
  | .group ([t]::s2::c),sg=>by
    have:=znJ ([t]::s2::c)
    rw[znQ _ _ (by simp) (by simp),List.length_cons,List.length_append,List.length_singleton]
    simp only[wtP];omega
theorem zo1:∀(t:Term),(prT t).length<=wtT t
  | .mk a p b=>by
    have h1:=zom p (a !=0||b !=0)
    have h2:=zo4 a
    have h3:=zo4 b
    simp only[prT,wtT,List.length_append]
    omega
theorem zo0:∀(s:List Term),(prS s).length<=wtS s
  |[]=>by simp[prS]
  |[t]=>by
    have:=zo1 t
    simp only[prS,wtS];omega
  |t::t2::s=>by
    have h1:=zo1 t
    have h2:=zo0 (t2::s)
    simp only[prS,wtS,List.length_append,List.length_cons]at *
    omega
theorem znJ:∀(c:List (List Term)),(prC c).length<=wtC c
  |[]=>by simp[prC]
  |[s]=>by
    have h1:=zo0 s
    cases s with
    |nil=>simp[prC,znd,wtC,wtS]
    |cons t s=>simp only[prC,znd,wtC]at *;omega
  |s::s2::c=>by
    have h1:=zo0 s
    have h2:=znJ (s2::c)
    have h3:(znd s).length<=wtS s:=by
      cases s with
      |nil=>simp[znd,wtS]
      |cons t s=>simp only[znd];exact h1
    simp only[prC,wtC,List.length_append,List.length_cons,List.length_nil]at *
    omega
 end
section
open Go.RowKit
attribute [local go_sem ↓] Go.wp_at_zero Go.wp_at_succ
def zs5(k:Nat):z7:=if k=7 then[63]else if k=8 then[42]else if k=9 then[43]else if k=10 then[38]else if k=11 then[33]else[]
theorem zsK(k:Nat)(w:World):Calls P 108 #[I J k] w λe g=>e=.returned (.string ⟨(zs5 k).toArray⟩)/\g=w:=by
 by_cases c:k=7;·subst c;go_enter func108,ntmps108;go_wp2_with fail;go_ret;exact⟨rfl,rfl⟩
 by_cases d:k=8;·subst d;go_enter func108,ntmps108;go_wp2_with fail;go_ret;exact⟨rfl,rfl⟩
 by_cases f:k=9;·subst f;go_enter func108,ntmps108;go_wp2_with fail;go_ret;exact⟨rfl,rfl⟩
 by_cases a:k=10;·subst a;go_enter func108,ntmps108;go_wp2_with fail;go_ret;exact⟨rfl,rfl⟩
 by_cases b:k=11;·subst b;go_enter func108,ntmps108;go_wp2_with fail;go_ret;exact⟨rfl,rfl⟩
 have e:zs5 k=[]:=by simp[zs5,c,d,f,a,b]
 rw[e];have j:¬(k:Int)=7:=by omega
 have l:¬(k:Int)=8:=by omega
 have m:¬(k:Int)=9:=by omega
 have h:¬(k:Int)=10:=by omega
 have i:¬(k:Int)=11:=by omega
 clear c d f a b e;go_enter func108,ntmps108;go_wp2_with fail;go_ret;exact⟨rfl,rfl⟩
def zsv(B a:Nat)(g f:Value)(c:List (RE×Value×Value))(b:List (z7×Nat))(k:Nat)(d:Bool)(s:z7):Prop:=∀w,GM w B a g f (c.map (ZY (zj b))) b->Calls P 109 #[.pointer (S ⟨a,0,N⟩),I J k,.bool d] w λe h=>e=.returned (.string ⟨s.toArray⟩)/\Below w.heap.size w h
def zrK(B a:Nat)(g f:Value)(c:List (RE×Value×Value))(b:List (z7×Nat))(k:Nat)(d:Bool)(s:z7):Prop:=∀w,GM w B a g f (c.map (ZY (zj b))) b->Calls P 147 #[.pointer (S ⟨a,0,N⟩),I J k,.bool d] w λe h=>e=.returned (.string ⟨s.toArray⟩)/\Below w.heap.size w h
def zsw(B a:Nat)(f d:Value)(c:List (RE×Value×Value))(b:List (z7×Nat))(k:Nat)(s:z7):Prop:=∀w,GM w B a f d (c.map (ZY (zj b))) b->Calls P 72 #[.pointer (S ⟨a,0,N⟩),I J k] w λe g=>e=.returned (.string ⟨s.toArray⟩)/\Below w.heap.size w g
def zsP(B a:Nat)(f d:Value)(c:List (RE×Value×Value))(b:List (z7×Nat))(k:Nat)(s:z7):Prop:=∀w,GM w B a f d (c.map (ZY (zj b))) b->Calls P 41 #[.pointer (S ⟨a,0,N⟩),I J k] w λe g=>e=.returned (.string ⟨s.toArray⟩)/\Below w.heap.size w g
theorem GM.exq{w:World}{B A:Nat}{z R:Value}{a:List (RE×Value×Value)}{O:List (z7×Nat)}{c:List z7}(h:GM w B A z R (a.map (ZY c)) O){k:Nat}{e:RE}(o:(zK a)[k]?=S e):∃(b r:Nat) (f:Option Addr) (g:Nat) (i:Option Addr) (p:Nat),k<a.length/\z=.slice (S ⟨b,0,N⟩) a.length r/\b<w.heap.size/\w.cell? ⟨b,k *5,N⟩=S (I J e.kind)/\w.cell? ⟨b,k *5+1,N⟩=S (.slice f e.items.length g)/\w.cell? ⟨b,k *5+2,N⟩=S (.string ⟨e.text.toArray⟩)/\w.cell? ⟨b,k *5+3,N⟩=S (I J (rfE c e 0))/\w.cell? ⟨b,k *5+4,N⟩=S (.slice i e.parts.length p)/\a.length<=9223372036854775807/\e.parts.length<=9223372036854775807/\(∀j (U:j<e.parts.length),∃q,i=S ⟨q,0,N⟩/\q<w.heap.size/\w.cell? ⟨q,j,N⟩=S (I J e.parts[j]))/\Items w B (.slice f e.items.length g) e.items:=by
 have d:k<a.length:=by have:=(List.getElem?_eq_some_iff.1 o).1;simpa using this
 have D:e=a[k].1:=by rw[List.getElem?_map,List.getElem?_eq_getElem d]at o;simpa using o.symm
 subst D;obtain⟨b,r,rfl,V,M,y⟩:=h.exAt (by simp;omega);have v:k<(a.map (ZY c)).length:=by simpa using d
 obtain⟨s,l,t,u,m⟩:=h.exCells.2 k v;have F:a[k]∈a:=List.getElem_mem d;have H:(a.map (ZY c))[k]'v=ZY c a[k]:=by rw[List.getElem_map]
 rw[H]at s l t u m;have n:ZY c a[k]∈a.map (ZY c):=List.mem_map_of_mem F;obtain⟨f,g,K⟩:=zl (h.items _ n);obtain⟨i,p,L,G,E⟩:=(h.parts _ n).gen;have x:=h.items _ n;rw[K]at l x;rw[L]at m;exact⟨b,r,f,g,i,p,d,by rw[List.length_map],M,s,l,t,u,m,by unfold maxLen at y;simp at y;omega,G,E,x⟩
theorem Items.below{w w':World}{B:Nat}{v:Value}{a:List zR}(h:Items w B v a)(b:Below w.heap.size w w'):Items w' B v a:=Zv h b
theorem ztN(b:z7):(b.map (λc=>(c,c))).flatMap (zng [39])=b.flatMap (znf [39]):=by
 induction b with
 |nil=>rfl|cons c b a=>simp[zng,a]
theorem zu3(B j:Nat)(r p:Value)(c:List (RE×Value×Value))(n:List (z7×Nat))(k:Nat)(b:z7)(o:Bool)(d:(zK c)[k]?=S ⟨4,[],b,0,[]⟩):zrK B j r p c n k o b:=by
 intro w h;obtain⟨s,H,D,E,F,G,v,rfl,A,a,e,f,g,i,y,z,m,l⟩:=h.exq d;have u:=h.lt;have q:=z8 h.blk;have x:(k:Int)<c.length:=by omega
 simp only[List.length_nil]at a e f g i;have t:w.cell? ⟨s,k *5,N⟩=S (I J 4):=a;clear d h l m a;go_enter func147,ntmps147;go_wp2_with fail;go_ret;exact⟨rfl,zc _ _⟩
theorem ztZ(B i:Nat)(p o:Value)(b:List (RE×Value×Value))(m:List (z7×Nat))(k:Nat)(n:Bool)(c:(zK b)[k]?=S ⟨3,[],[],0,[]⟩):zrK B i p o b m k n [46]:=by
 intro w h;obtain⟨r,G,A,D,E,F,u,rfl,z,a,d,e,f,g,x,y,l,j⟩:=h.exq c;have t:=h.lt;have q:=z8 h.blk;have v:(k:Int)<b.length:=by omega
 simp only[List.length_nil]at a d e f g;have s:w.cell? ⟨r,k *5,N⟩=S (I J 3):=a;clear c h j l a;go_enter func147,ntmps147;go_wp2_with fail;go_ret;exact⟨rfl,zc _ _⟩
theorem zu2(B s:Nat)(A z:Value)(f:List (RE×Value×Value))(x:List (z7×Nat))(k:Nat)(b:z7)(y:Bool)(i:(zK f)[k]?=S ⟨1,b.map (λc=>(c,c)),[],0,[]⟩)(t:b.length<=250000):zrK B s A z f x k y (znr b):=by
 intro w h;obtain⟨D,xc,V,W,X,Y,G,rfl,U,a,m,o,p,r,K,L,u,d⟩:=h.exq i;have F:=h.lt;have q:=z8 h.blk;have H:(k:Int)<f.length:=by omega
 simp only[List.length_nil]at a m o p r d;have E:w.cell? ⟨D,k *5,N⟩=S (I J 1):=a;have e:=λO=>ztj (w.alloc O) B _ _ ⟨#[39]⟩ (d.below (zc w O)) (by decide) (by simpa using t);simp only[show(ByteArray.mk #[39]).data.toList=[39]from rfl,ztN]at e;have M:(ByteArray.mk (b.flatMap (znf [39])).toArray).size<=1250000:=by have:=zpM b;unfold znr at this;rw[List.length_cons,List.length_append,List.length_singleton]at this;show(b.flatMap (znf [39])).toArray.size<=_;simp only[List.size_toArray];omega
 have v:(ByteArray.mk #[39]).size=1:=rfl;have R:(ByteArray.mk #[39]++ByteArray.mk (b.flatMap (znf [39])).toArray).size<=1250001:=by rw[ByteArray.size_append,v];omega
 have l:Hid ((ByteArray.mk #[39]++ByteArray.mk (b.flatMap (znf [39])).toArray)++ByteArray.mk #[39]=ByteArray.mk (znr b).toArray):=by show _=_;rw[show(ByteArray.mk #[39])=ByteArray.mk ([39]:z7).toArray from rfl,zpx,zpx];rfl
 generalize (b.map (λc=>(c,c))).length=n at *;clear i h d u a;go_enter func147,ntmps147;go_wp2_with fail;refine(e _).mono ?_;rintro _ Z⟨rfl,g⟩;have j:=z6 ((zc w _).trans (g.mono (by simp)));clear e g;go_wp2_with fail;go_ret;exact⟨congrArg (λb=>Ending.returned (Value.string b)) l.out,j.out⟩
theorem zu1(B s:Nat)(z y:Value)(e:List (RE×Value×Value))(v:List (z7×Nat))(k:Nat)(l:List zR)(x:Bool)(g:(zK e)[k]?=S ⟨2,l,[],0,[]⟩)(E:l.length<=100000):zrK B s z y e v k x (znv l):=by
 intro w h;obtain⟨A,xc,W,X,Y,Z,G,rfl,V,a,m,o,p,r,K,L,t,c⟩:=h.exq g;have F:=h.lt;have q:=z8 h.blk;have H:(k:Int)<e.length:=by omega
 simp only[List.length_nil]at a m o p r c;have D:w.cell? ⟨A,k *5,N⟩=S (I J 2):=a;have d:=λO=>ztj (w.alloc O) B _ _ ⟨#[93,45]⟩ (c.below (zc w O)) (by decide) (by omega);simp only[show(ByteArray.mk #[93,45]).data.toList=[93,45]from rfl]at d;have M:(ByteArray.mk (l.flatMap (zng [93,45])).toArray).size<=1250000:=by have:=zpc [93,45] l;show(l.flatMap (zng [93,45])).toArray.size<=_;simp only[List.size_toArray];omega
 have u:(ByteArray.mk #[91]).size=1:=rfl;have U:(ByteArray.mk #[93]).size=1:=rfl;have R:(ByteArray.mk #[91]++ByteArray.mk (l.flatMap (zng [93,45])).toArray).size<=1250001:=by rw[ByteArray.size_append,u];omega
 have j:Hid ((ByteArray.mk #[91]++ByteArray.mk (l.flatMap (zng [93,45])).toArray)++ByteArray.mk #[93]=ByteArray.mk (znv l).toArray):=by show _=_;rw[show(ByteArray.mk #[91])=ByteArray.mk ([91]:z7).toArray from rfl,show(ByteArray.mk #[93])=ByteArray.mk ([93]:z7).toArray from rfl,zpx,zpx];rfl
 generalize l.length=n at *;clear g h c t a;go_enter func147,ntmps147;go_wp2_with fail;refine(d _).mono ?_;rintro _ w1⟨rfl,f⟩;have i:=z6 ((zc w _).trans (f.mono (by simp)));clear d f;go_wp2_with fail;go_ret;exact⟨congrArg (λb=>Ending.returned (Value.string b)) j.out,i.out⟩
end
section
open Go.RowKit
def zF:Option Nat->Int
 |none=> -1
 |some e=>e
theorem zeH(v:Option Nat):zF v≠ -2:=by
 cases v with
 |none=>simp[zF]|some e=>simp only[zF];omega
theorem zcA{F:REv}{n:Nat}(h:∀i k e,F i k=S (S e)->k<=n->k<=e/\e<=n):∀f k e,Jb F f k=S (S e)->k<=n->k<=e/\e<=n
 |[],k,e,c,d=>by simp[Jb]at c;subst c;exact⟨Nat.le_refl _,d⟩
 |j::f,k,e,c,d=>by
  simp only[Jb]at c;split at c;·cases c
  ·cases c
  ·rename_i g l;have a:=h j k g l d;have b:=zcA h f g e c a.2;omega
theorem zba{F:REv}{n:Nat}(h:∀i k e,F i k=S (S e)->k<=n->k<=e/\e<=n):∀c k e,chR F c k=S (S e)->k<=n->k<=e/\e<=n
 |[],k,e,a,b=>by simp[chR]at a
 |j::c,k,e,a,b=>by
  simp only[chR]at a;split at a;·cases a
  ·exact zba h c k e a b
  ·rename_i f d;cases a;exact h j k _ d b
theorem zcl{F:REv}{n:Nat}(h:∀i k e,F i k=S (S e)->k<=n->k<=e/\e<=n)(j:Nat):∀c o k e,Zf F j c o k=S (S e)->k<=n->(∀x,o=S x->k<=x/\x<=n)->k<=e/\e<=n
 |0,_,_,_,a,_,_=>by simp[Zf]at a
 |c+1,N,k,e,a,b,_=>by simp[Zf]at a;subst a;exact⟨Nat.le_refl _,b⟩
 |c+1,S x,k,e,a,b,g=>by
  simp only[Zf]at a;have d:=g x rfl;split at a;·cases a
  ·rename_i m f;have:=zcl h j c m x e a d.2 (λy l=>by subst l;exact h j x y f d.2);omega
theorem zec{a:z7}{e:RE}{k x:Nat}(h:Yh a e k=S x)(f:k<=a.length):k<=x/\x<=a.length:=by
 unfold Yh at h;split at h
 ·split at h;·cases h;omega
  ·cases h
 ·split at h
  ·split at h;·cases h
   ·rename_i c b;have:=(List.getElem?_eq_some_iff.1 b).1;split at h;·cases h;omega
    ·cases h
  ·split at h;·rename_i d;cases h;have:=(List.isPrefixOf_iff_prefix.1 d).length_le;rw[List.length_drop,List.length_map]at this;omega
   ·cases h
theorem JO{xs:List RE}{names:List z7}{bodies:List Nat}{inp:z7}:∀f i k e,evR xs names bodies inp f i k=S (S e)->k<=inp.length->k<=e/\e<=inp.length
 |0,_,_,_,h,_=>by simp[evR]at h
 |f+1,i,k,e,h,a=>by
  have b:=JO (xs:=xs) (names:=names) (bodies:=bodies) (inp:=inp) f;simp only[evR]at h;split at h;·cases h
  ·rename_i x g;split at h;rotate_left;·cases h
   unfold QH at h;split at h;·exact zec (Option.some.inj h) a
   ·split at h;·exact b _ _ _ h a
    ·split at h;·exact zcA b _ _ _ h a
     ·split at h;·exact zba b _ _ _ h a
      ·unfold Jq at h;split at h;·cases h
       ·rename_i n c;split at h
        ·have:=Option.some.inj h;cases n with
         |none=>simp at this;subst this;exact⟨Nat.le_refl _,a⟩|some y=>simp at this;subst this;exact b _ _ _ c a
        ·split at h;·have:=Option.some.inj h;split at this<;>cases this;exact⟨Nat.le_refl _,a⟩
         ·split at h;·have:=Option.some.inj h;split at this<;>cases this;exact⟨Nat.le_refl _,a⟩
          ·split at h;·cases h
           ·exact zcl b _ _ _ _ _ h a (λy d=>by subst d;exact b _ _ _ c a)
abbrev Tab:=Nat->Nat->Int
def JB(n:Nat)(f:Nat->Int):List Int:=(List.range n).map f
def KM(l:List Int):Obj:=.cells (l.map (Value.int J)).toArray 3 (0,0)
theorem zi1(n:Nat)(f:Nat->Int)(t:Nat)(u:Int):(JB n f).set t u=JB n (λj=>if j=t then u else f j):=by
 apply List.ext_getElem;·simp[JB]
 ·intro i a b;simp only[JB,List.getElem_set,List.getElem_map,List.getElem_range];by_cases e:t=i;·subst e;simp
  ·have:¬i=t:=λh=>e h.symm;simp[e,this]
theorem KpM.of_below{c:List Nat}{w a:World}(h:Below w.heap.size w a):KpM c w.heap.size w a:=⟨h.os,h.tape,h.output,h.size,λk b _=>h.block k b⟩
theorem KpM.mono{a:List Nat}{B B':Nat}{w b:World}(h:KpM a B w b)(d:B'<=B):KpM a B' w b:=⟨h.os,h.tape,h.output,h.size,λk e c=>h.block k (by omega) c⟩
theorem KpM.go{a:List Nat}{w b c:World}(h:KpM a w.heap.size w b)(k:KpM a b.heap.size b c):KpM a w.heap.size w c:=h.trans (k.mono h.size)
structure Y1(w0 w:World)(tb eb ec:Nat)(vx vr:Value)(s:ByteArray)(rbs:List Nat)(M:Tab):Prop where
 size:w0.heap.size<=w.heap.size
 old:∀b,b<w0.heap.size->w.heap[b]?=w0.heap[b]?
 blk:w.heap[tb]?=some (.cells #[vx,vr,.string s,.slice (some ⟨eb,0,none⟩) rbs.length ec] 161 (0,0))
 elt:eb<w.heap.size
 ends:∀i (h:i<rbs.length),w.cell? ⟨eb,i,none⟩=some (.slice (some ⟨rbs[i],0,none⟩) (s.size+1) (s.size+1))
 row:∀i (h:i<rbs.length),w.heap[rbs[i]]?=some (KM (JB (s.size+1) (M i)))
 nodup:rbs.Nodup
 rge:∀b∈rbs,w0.heap.size<=b
 tn:tb∉rbs
 en:eb∉rbs
theorem Y1.kept{l w w':World}{g d e:Nat}{k j:Value}{s:ByteArray}{f:List Nat}{M:Tab}(h:Y1 l w g d e k j s f M)(a:Below w.heap.size w w'):Y1 l w' g d e k j s f M:=by
 have n:=h.size;have o:=a.size;refine⟨by omega,λb m=>by rw[a.block b (by omega)];exact h.old b m,by rw[a.block _ (zd h.blk)];exact h.blk,by have:=h.elt;omega,λi c=> ?_,λi c=> ?_,h.nodup,h.rge,h.tn,h.en⟩;·rw[a.cell (p:=⟨d,i,N⟩) h.elt];exact h.ends i c
 ·rw[a.block _ (zd (h.row i c))];exact h.row i c
theorem Y1.at{j w:World}{e b c:Nat}{g f:Value}{s:ByteArray}{a:List Nat}{M:Tab}(h:Y1 j w e b c g f s a M)(i k:Nat)(d:i<a.length)(l:k<=s.size):w.cell? ⟨a[i],k,N⟩=S (I J (M i k)):=by
 rw[z8 (h.row i d)];have:k<s.size+1:=by omega
 simp[JB,this]
theorem zft(l:List Int)(t:Nat)(u:Int):(Obj.cells ((l.map (Value.int J)).toArray.setIfInBounds t (I J u)) 3 (0,0))=KM (l.set t u):=by unfold KM;simp[List.map_set]
theorem Y1.set{q w:World}{n d m:Nat}{p o:Value}{s:ByteArray}{c:List Nat}{M:Tab}(h:Y1 q w n d m p o s c M)(f t:Nat)(x:f<c.length)(u:Int):Y1 q (w.setCell ⟨c[f],t,N⟩ (I J u)) n d m p o s c (λi j=>if i=f/\j=t then u else M i j):=by
 have y:c[f]∈c:=List.getElem_mem x;have l:∀b,b∉c->(w.setCell ⟨c[f],t,N⟩ (I J u)).heap[b]?=w.heap[b]?:=λb k=>Below.heap_setCell _ _ _ _ (λe=>k (e▸y));refine⟨by simpa[World.setCell]using h.size,λb k=> ?_,by rw[l _ h.tn];exact h.blk,by simpa[World.setCell]using h.elt,λi g=> ?_,λi g=> ?_,h.nodup,h.rge,h.tn,h.en⟩;·rw[l b (λv=>by have:=h.rge b v;omega)];exact h.old b k
 ·rw[World.cell?_of_block (a:=⟨d,i,N⟩) (l d h.en)];exact h.ends i g
 ·by_cases e:i=f;·subst e;rw[zo (h.row i g)];show S _=_;have:=zft (JB (s.size+1) (M i)) t u;rw[zi1]at this;rw[show(λj=>if i=i/\j=t then u else M i j)=(λj=>if j=t then u else M i j)from by funext j;simp];rw[<-this]
  ·have z:c[i]≠c[f]:=λr=>e ((List.getElem_inj h.nodup).1 r);rw[Below.heap_setCell _ _ _ _ z,h.row i g];congr 3;funext j;simp[e]
def Snd(d:List RE)(c:List z7)(b:List Nat)(a:z7)(M:Tab):Prop:=∀i k,k<=a.length->M i k= -2\/∃f v,evR d c b a f i k=S v/\M i k=zF v
theorem Snd.set{j:List RE}{g:List z7}{c:List Nat}{d:z7}{M:Tab}(h:Snd j g c d M){f i k:Nat}{v:Option Nat}(m:evR j g c d f i k=S v):Snd j g c d (λa b=>if a=i/\b=k then zF v else M a b):=by
 intro a b l;by_cases e:a=i/\b=k;·obtain⟨rfl,rfl⟩:=e;exact .inr ⟨f,v,m,by simp⟩
 ·simp only[if_neg e];exact h a b l
end
section
open Go.RowKit
attribute [local go_sem ↓] Go.wp_at_zero Go.wp_at_succ
theorem zfz(a b:Nt)(w:World):Calls P 203 #[ntV a,ntV b] w λe f=>e=.returned (ntV (jn a b))/\f=w:=by
 cases a with
 |nil=>simp only[ntV,jn];generalize ntV b=v;go_enter func203,ntmps203;go_wp2_with fail;go_ret;exact⟨rfl,rfl⟩
 |use i x y m=>
  cases b with
  |nil=>simp only[ntV,jn];go_enter func203,ntmps203;go_wp2_with fail;go_ret;exact⟨rfl,rfl⟩|use c g h d=>simp only[ntV,jn];go_enter func203,ntmps203;go_wp2_with fail;go_ret;exact⟨rfl,rfl⟩|pair p q=>simp only[ntV,jn];go_enter func203,ntmps203;go_wp2_with fail;go_ret;exact⟨rfl,rfl⟩
 |pair p q=>
  cases b with
  |nil=>simp only[ntV,jn];go_enter func203,ntmps203;go_wp2_with fail;go_ret;exact⟨rfl,rfl⟩|use c g h d=>simp only[ntV,jn];go_enter func203,ntmps203;go_wp2_with fail;go_ret;exact⟨rfl,rfl⟩|pair j k=>simp only[ntV,jn];go_enter func203,ntmps203;go_wp2_with fail;go_ret;exact⟨rfl,rfl⟩
theorem QV(a:Nt):ntV a=.nilIface\/∃t x,ntV a=.iface t x:=by
 cases a with
 |nil=>exact .inl rfl|use i x y m=>exact .inr ⟨_,_,rfl⟩|pair p q=>exact .inr ⟨_,_,rfl⟩
abbrev Zz(c:Value)(s:ByteArray)(b:Value)(a:Value):Obj:=.cells #[c,.string s,b,a] 177 (0,0)
theorem KQ(w:World)(c:Nat)(k:Value)(s:ByteArray)(j:Value)(a b:Nt)(h:w.heap[c]?=S (Zz k s j (ntV a))):Calls P 192 #[.pointer (S ⟨c,0,N⟩),ntV b] w λe l=>e=.returned (.tuple #[])/\l=w.setCell ⟨c,3,N⟩ (ntV (jn a b)):=by have q:w.cell? ⟨c,3,N⟩=S (ntV a):=z8 h 3;have m:=zi h 3;have n:=zd h;have f:=zfz a b w;have g:=z6 f;have i:=QV (jn a b);generalize ntV b=p at *;generalize ntV (jn a b)=r at *;generalize ntV a=o at *;clear h f;rcases i with rfl|⟨t,x,rfl⟩;all_goals go_enter func192,ntmps192;go_wp2_with fail;refine g.out.mono ?_;rintro _ u⟨rfl,d⟩;replace d:=d.symm;subst d;go_wp2_with fail;go_end0;exact⟨rfl,rfl⟩
theorem zj3(w:World)(c:Nat)(g:Value)(s:ByteArray)(f a:Value)(b:Nt)(h:w.heap[c]?=S (Zz g s f a)):Calls P 152 #[.pointer (S ⟨c,0,N⟩),ntV b] w λe i=>e=.returned (.tuple #[])/\i=w.setCell ⟨c,3,N⟩ (ntV b):=by have q:w.cell? ⟨c,3,N⟩=S a:=z8 h 3;have j:=zi h 3;have k:=zd h;have d:=QV b;generalize ntV b=l at *;clear h;rcases d with rfl|⟨t,x,rfl⟩;all_goals go_enter func152,ntmps152;go_wp2_with fail;go_end0;exact⟨rfl,rfl⟩
theorem V0(w:World)(c:Nat)(u:FrameMode)(i:Value)(s:ByteArray)(f a:Value)(b:Nt)(h:w.heap[c]?=S (Zz i s f a)):CallsD P 152 #[.pointer (S ⟨c,0,N⟩),ntV b] u w λe g j=>g=u/\(e=.returned (.tuple #[])/\j=w.setCell ⟨c,3,N⟩ (ntV b)):=by have q:w.cell? ⟨c,3,N⟩=S a:=z8 h 3;have k:=zi h 3;have l:=zd h;have d:=QV b;generalize ntV b=m at *;clear h;rcases d with rfl|⟨t,x,rfl⟩;all_goals go_enter_d func152,ntmps152;go_wp2;go_end0;exact⟨rfl,rfl⟩
abbrev z9(b:Nat):Value:=.pointer (S ⟨b,0,N⟩)
abbrev zT(x:Nat×Nat×Nat):Value:=.func (.func 177) #[] #[z9 x.1,z9 x.2.1,z9 x.2.2]
def clV(a:List (Nat×Nat×Nat))(n:Nat):Value:=zT (a.getD n (0,0,0))
abbrev zh(v:Value)(t:TypeId):Obj:=.cells #[v] t (0,0)
def Yu(w:World)(d:Nat)(c:List (Nat×Nat×Nat))(b:List Nat)(a:Option Addr):Prop:=∀j (h:j<b.length),∃g,a=S ⟨g,0,N⟩/\g<w.heap.size/\g≠d/\w.cell? ⟨g,j,N⟩=S (clV c b[j])
def Inn(w:World)(h:Nat)(m:List (Nat×Nat×Nat))(n:Nat)(e:Value):Nd->Prop
 | .choice j=>∃g a c,e=.func (.func 151) #[] #[z9 g]/\w.heap[g]?=S (zh (.slice a j.length c) 175)/\Yu w h m j a/\j.length<=1000000
 | .seq j=>∃d g a c,e=.func (.func 175) #[] #[z9 d,z9 g]/\w.heap[d]?=S (zh (z9 h) 113)/\w.heap[g]?=S (zh (.slice a j.length c) 175)/\Yu w h m j a/\j.length<=1000000
 | .ahead k t=>∃d f s,e=.func (.func 202) #[] #[z9 d,z9 f,z9 s]/\w.heap[d]?=S (zh (z9 h) 113)/\w.heap[f]?=S (zh (clV m k) 226)/\w.heap[s]?=S (zh (.bool t) 4)
 | .maybe k=>∃f,e=.func (.func 212) #[] #[z9 f]/\w.heap[f]?=S (zh (clV m k) 226)
 | .plus k=>∃f q,e=.func (.func 213) #[] #[z9 f,z9 q]/\w.heap[f]?=S (zh (clV m k) 226)/\w.heap[q]?=S (zh (clV m n) 226)
 | .name i=>∃d p,e=.func (.func 215) #[] #[z9 d,z9 p]/\w.heap[d]?=S (zh (z9 h) 113)/\w.heap[p]?=S (zh (I J i) 3)
 | .lit b=>∃d r,e=.func (.func 216) #[] #[z9 d,z9 r]/\w.heap[d]?=S (zh (z9 h) 113)/\w.heap[r]?=S (zh (.string ⟨b.toArray⟩) 9)/\b.length<=20
 | .cls l=>∃d o g u,e=.func (.func 220) #[] #[z9 d,z9 o]/\w.heap[d]?=S (zh (z9 h) 113)/\w.heap[o]?=S (zh (.func (.func 217) #[] #[z9 g]) 287)/\w.heap[g]?=S (zh u 235)/\Qr w 0 u l/\l.length<=20
 | .any=>∃d o,e=.func (.func 220) #[] #[z9 d,z9 o]/\w.heap[d]?=S (zh (z9 h) 113)/\w.heap[o]?=S (zh (.func (.func 211) #[] #[]) 287)
structure Mde(wM:World)(mb:Nat)(N:List Nd)(bx:List (Nat×Nat×Nat))(rules:List Nat)(vr:Value):Prop where
 clo:∀n d,N[n]?=some d->∃iv,wM.heap[(bx.getD n (0,0,0)).1]?=some (zh (z9 mb) 113)/\wM.heap[(bx.getD n (0,0,0)).2.1]?=some (zh (.int .i64 n) 3)/\wM.heap[(bx.getD n (0,0,0)).2.2]?=some (zh iv 226)/\Inn wM mb bx n iv d
 rul:∃rb rc,vr=.slice (some ⟨rb,0,none⟩) rules.length rc/\rb<wM.heap.size/\rb≠mb/\∀i (h:i<rules.length),wM.cell? ⟨rb,i,none⟩=some (clV bx rules[i])
 mat:∃sv tv nv,wM.heap[mb]?=some (.cells #[vr,sv,tv,nv] 177 (0,0))
structure MS(wM:World)(mb tb:Nat)(N:List Nd)(rules:List Nat)(vr:Value)(s:ByteArray)(nt:Nt)(w:World):Prop where
 size:wM.heap.size<=w.heap.size
 old:∀b,b<wM.heap.size->b≠mb->w.heap[b]?=wM.heap[b]?
 mlt:mb<wM.heap.size
 blk:w.heap[mb]?=some (Zz vr s (.map (some tb)) (ntV nt))
 tge:wM.heap.size<=tb
 memo:∃L,Qz w tb L/\∀n k r,ZK L n k=some r->∃f,evN N rules s.data.toList f n k=some r
theorem Qz.lt{w:World}{a:Nat}{L:J3}(h:Qz w a L):a<w.heap.size:=by obtain⟨d,c,b,_⟩:=h;exact zd b
theorem Qz.same{w w':World}{a:Nat}{L:J3}(h:Qz w a L)(f:w'.heap[a]?=w.heap[a]?):Qz w' a L:=by obtain⟨c,b,d,e⟩:=h;exact⟨c,b,by rw[f];exact d,e⟩
theorem MS.below{i:World}{d f:Nat}{N:List Nd}{rules:List Nat}{g:Value}{s:ByteArray}{e:Nt}{w w':World}(h:MS i d f N rules g s e w)(a:Below w.heap.size w w'):MS i d f N rules g s e w':=by have m:=h.size;have n:=a.size;have o:=h.mlt;obtain⟨L,c,j⟩:=h.memo;exact⟨by omega,λb k l=>(a.block b (by omega)).trans (h.old b k l),h.mlt,by rw[a.block _ (by omega)];exact h.blk,h.tge,L,c.same (a.block _ c.lt),j⟩
theorem MS.noted{i:World}{a c:Nat}{d:List Nd}{rules:List Nat}{g:Value}{s:ByteArray}{n:Nt}{w:World}(h:MS i a c d rules g s n w)(f:Nt):MS i a c d rules g s f (w.setCell ⟨a,3,N⟩ (ntV f)):=by
 obtain⟨L,j,k⟩:=h.memo;have m:c≠a:=by have:=h.mlt;have:=h.tge;omega
 refine⟨by simpa[World.setCell]using h.size,λb l e=> ?_,h.mlt,?_,h.tge,L,j.same (Below.heap_setCell _ _ _ _ m),k⟩;·rw[Below.heap_setCell _ _ _ _ e];exact h.old b l e
 ·rw[zo h.blk];rfl
theorem MS.low{d:World}{e c:Nat}{N:List Nd}{rules:List Nat}{g:Value}{s:ByteArray}{f:Nt}{B:Nat}{w i:World}(h:MS d e c N rules g s f w)(r:d.heap.size<=B)(n:c<B)(a:Below B w i):MS d e c N rules g s f i:=by have o:=h.size;have p:=a.size;have q:=h.mlt;obtain⟨L,j,k⟩:=h.memo;exact⟨by omega,λb l m=>(a.block b (by omega)).trans (h.old b l m),h.mlt,by rw[a.block _ (by omega)];exact h.blk,h.tge,L,j.same (a.block _ n),k⟩
theorem MS.tlt{f:World}{c a:Nat}{N:List Nd}{rules:List Nat}{e:Value}{s:ByteArray}{d:Nt}{w:World}(h:MS f c a N rules e s d w):a<w.heap.size:=by obtain⟨L,b,_⟩:=h.memo;exact b.lt
theorem KpM.low{d:List Nat}{B:Nat}{a w e:World}(h:KpM d B a w)(b:Below B w e):KpM d B a e:=⟨b.os.trans h.os,b.tape.trans h.tape,b.output.trans h.output,Nat.le_trans h.size b.size,λk c f=>(b.block k c).trans (h.block k c f)⟩
theorem KpM.noted{b c:Nat}{B:Nat}{a w:World}(h:KpM [b,c] B a w)(u:Value):KpM [b,c] B a (w.setCell ⟨b,3,N⟩ u):=h.set (by simp) u
end
end Go.Proofs.YtiganlkabilblaaGreatDoor
