import Derived.Test.YtiganlkabilblaaGreatDoorV26
import Derived.Test.YtiganlkabilblaaGreatDoorV27
import Derived.Test.YtiganlkabilblaaGreatDoorV25
set_option linter.all false
set_option maxHeartbeats 64000000
set_option maxRecDepth 100000
namespace Go.Proofs.YtiganlkabilblaaGreatDoor
open Tryz
open Tryz renaming prog->P
open Option renaming some->S,none->N
open Value renaming int->I
open IntKind renaming i64->J
section
open Go.RowKit
theorem zus(B gb:Nat)(vx vr:Value)(ps:List (RE×Value×Value))(rs:List (z7×Nat)):zsk (zK ps) (zrK B gb vx vr ps rs) (zsv B gb vx vr ps rs) (zsw B gb vx vr ps rs) (zsP B gb vx vr ps rs) where
 name:=λk b sg hx=>zu3 B gb vx vr ps rs k b sg hx
 lit:=λk b sg hx hb=>zu2 B gb vx vr ps rs k b sg hx hb
 cls:=λk l sg hx hb=>zu1 B gb vx vr ps rs k l sg hx hb
 any:=λk sg hx=>ztZ B gb vx vr ps rs k sg hx
 brk:=λk q qs ks sg s hx hs hm hl hC=>zu0 B gb vx vr ps rs k q qs ks sg s hx hs hm hl hC
 unit:=λk q sg hx hs=>zu6 B gb vx vr ps rs k q sg hx hs
 thru:=λk q t e sg s hx hs ht he hP=>zu5 B gb vx vr ps rs k q t e sg s hx hs ht he hP
 sgn:=λk q t e sg s hx hs ht h1 h2 hl hP=>zu4 B gb vx vr ps rs k q t e sg s hx hs ht h1 h2 hl hP
 item:=λk e sg s hx hk hP=>ztU B gb vx vr ps rs k e sg s hx hk hP
 itemS:=λk j b sg s hx hb hl hP=>ztV B gb vx vr ps rs k j b sg s hx hb hl hP
 term:=λk e s hx hk hI=>zu9 B gb vx vr ps rs k e s hx hk hI
 termS:=λk i a s hx ha hl hI=>zua B gb vx vr ps rs k i a s hx ha hl hI
 choice:=λk qs sss hx hall hl=>ztT B gb vx vr ps rs k qs sss hx hall hl
def prR(r:ze):z7:=((r.name++[32,60,45,32])++prC r.choice)++[10]
def prG(g:List ze):z7:=g.flatMap prR
def GOk(g:List ze):Prop:=∀r∈g,wtC r.choice<=500000/\r.name.length<=20
theorem Zo.gok{l:List UInt8}{g:List ze}{E:List Bool}(h:Zo l (.ok (g,E))):GOk g:=by
 cases h with
 |ok h _=>
  cases h with
  |read b a=>exact zf6 a b
theorem zp2{r:ze}(h:wtC r.choice<=500000/\r.name.length<=20):(prR r).length<=500030/\(prC r.choice).length<=500000:=by have:=znJ r.choice;unfold prR;simp only[List.length_append,List.length_cons,List.length_nil];omega
theorem zqb{g:List ze}(h:GOk g):(prG g).length<=500030 *g.length:=by
 unfold prG;induction g with
 |nil=>simp|cons r g b=>have c:=(zp2 (h r (by simp))).1;have d:=b (λx a=>h x (by simp[a]));rw[List.flatMap_cons,List.length_append,List.length_cons];omega
theorem zqd{a:List ze}(h:GOk a)(e:a.length<=20)(i:Nat):(prG (a.take i)).length<=10000600:=by
 have d:=zqb (g:=a.take i) (λr c=>h r (List.mem_of_mem_take c));have b:(a.take i).length<=20:=by rw[List.length_take];omega
 have:500030 *(a.take i).length<=500030 *20:=Nat.mul_le_mul_left _ b;omega
theorem zqc{g:List ze}{i:Nat}(h:i<g.length):prG (g.take (i+1))=prG (g.take i)++prR g[i]:=by unfold prG;rw[List.take_succ_eq_append_getElem h,List.flatMap_append];simp
theorem znD(a b:z7)(h:a.length+b.length<=200000000)(W:World):(Op.stringOp .add ⟨a.toArray⟩ ⟨b.toArray⟩).run P W=.ok (.string ⟨(a++b).toArray⟩) W:=by rw[run_string_add_sum W _ _ (by show a.toArray.size+b.toArray.size<=_;simp;omega)];exact congrArg (λb=>Result.ok (Value.string b) W) (zpx a b)
end
section
open Go.RowKit
attribute [local go_sem ↓] Go.wp_at_zero Go.wp_at_succ
theorem zgq(n:Nat)(g:n<=20)(w:World):∃a:Array Value,a.size=n/\(Instr.makeSlice 175 (I J n) (I J n)).run prog w=.ok (.slice (S ⟨w.heap.size,0,N⟩) n n) (w.alloc (.cells a 226)):=by
 obtain⟨b,c,d,e,f⟩:=info_parts infoExprF;refine⟨madeCells (Value.nilFunc).cells (((n:Nat):Int).toNat *b.size),?_,?_⟩;·rw[size_madeCells,e];simp
 ·have h:=run_make (P:=prog) w 175 226 b _ underlying175 c d J J (n:Int) (n:Int) (by omega) (by omega) (by rw[f];omega) (by omega);simpa using h
theorem qU{w:World}{c:Addr}{v u:Value}{b o:Nat}(h:w.cell? c=S v)(d:c.block≠b):(w.setCell ⟨b,o,N⟩ u).cell? c=S v:=by rw[World.cell?_of_block (a:=c) (Below.heap_setCell w ⟨b,o,N⟩ u c.block d)];exact h
def zaJ(g:List ze)(w:World)(e:Ending)(c:World):Prop:=∃a d i f h S,e=.returned (z9 a)/\Jv c a d i f h S/\c.heap[a]?=some (Zz h ⟨#[]⟩ (.map N) .nilIface)/\DnR d f g/\Below w.heap.size w c/\w.heap.size<=a/\∀b,S b->w.heap.size<=b\/QA w b
theorem zgA{w:World}{nb:Nat}{g:List ze}{names:List z7}{a:Array Value}(b:a.size=g.length):MkL w (w.heap.size+1+1) (w.heap.size+1) nb w.heap.size g names 0 (((w.alloc (.cells a 226 (0,0))).alloc (Zz (.slice (S ⟨w.heap.size,0,N⟩) g.length g.length) ⟨#[]⟩ (.map N) .nilIface)).alloc (Qd (w.heap.size+1) (.map (S nb)) 0)) [] [] (λ_=>False) []:=by refine⟨⟨Vl w _ _ _,by simp,rfl,λh=>h,λ_ h=>h.elim,λ_ _ _ n d c=>by simp at c⟩,by simp,rfl,by simp,by simp,Vk w _ _ _,⟨a,Vj w _ _ _,b,by simp⟩,λh=>h,λh=>h,Qs w _ _ _,λ_ h=>h.elim⟩
theorem zgp(e:World)(A:Nat->Prop)(d:List ze)(ga:Addr)(gc t:Nat)(h:Zj e A d (.slice (some ga) d.length gc))(hm:Zd e t (zg d))(a0:GOk d)(a8:∀r∈d,okC r.choice)(H:d.length<=20):Calls P 82 #[.slice (some ga) d.length gc,.map (some t)] e (zaJ d e):=by
 obtain⟨Z,a3,aB⟩:=zgq d.length H e;have HG:=z6 h;have HM:=z6 hm;have ad:=z6 a0;have af:=z6 a8;have ah:=z6 (zcW d (λr hr=>(a0 r hr).1));have H0:=z6 (zgA (w:=e) (nb:=t) (g:=d) (names:=zg d) a3);clear h hm a0 a8 a3;go_enter func82,ntmps82;go_wp2_with fail;go_loopg[17] d.length (λm vi wr=>∃(i:Nat) (u:List Nd) (q:List (Nat×Nat×Nat)) (V:List Nat) (S:Nat->Prop),m=d.length-i/\vi=I J i/\i<=d.length/\Hid (MkL e (e.heap.size+1+1) (e.heap.size+1) t e.heap.size d (zg d) i wr u q S V));case atStart=>exact⟨0,[],[],[],λ_=>False,by omega,rfl,by omega,H0⟩
 case round=>
  obtain⟨i,u,q,V,S,rfl,rfl,hi,f⟩:=hrel;have a9:=f.out.bel.size;by_cases F:i<d.length
  ·have am:(i:Int)<d.length:=by omega
   obtain⟨K,z,B,rfl,a4,_,c0,c1,a2,aq⟩:=HG.out.at i F;have a5:=ad.out d[i] (List.getElem_mem F);have a7:=af.out d[i] (List.getElem_mem F);have ar:wr.cell? ⟨K,i *2,N⟩=some (.string ⟨d[i].name.toArray⟩):=by rw[f.out.bel.cell (p:=⟨K,_,N⟩) a4];exact c0
   have au:wr.cell? ⟨K,i *2+1,N⟩=some (.slice z d[i].choice.length B):=by rw[f.out.bel.cell (p:=⟨K,_,N⟩) a4];exact c1
   have k0:wr.cell? ⟨e.heap.size+1+1,0,N⟩=some (z9 (e.heap.size+1)):=z8 f.out.mkr.blk 0;have m0:wr.cell? ⟨e.heap.size+1,0,N⟩=some (.slice (some ⟨e.heap.size,0,N⟩) d.length d.length):=z8 f.out.mat 0;have al:=za f.out.mkr.blk;have aa:=z6 a2;have ag:Hid (∀X,Below wr.heap.size wr X->Calls P 119 #[z9 (e.heap.size+1+1),.slice z d[i].choice.length B] X (Mak (e.heap.size+1+1) (e.heap.size+1) t u q S (2 *wtC d[i].choice) (λN' n=>DnP N' (zg d) n (.group d[i].choice)) X)):=z6 (λX s=>by
    have D:Below e.heap.size e X:=f.out.bel.trans (s.mono a9);have aw:=f.out.cnt;have aF:=zcX d i F;have aE:Jc (d.take (i+1))<=Jc d:=by
     conv=>rhs;rw[<-List.take_append_drop (i+1) d]
     rw[zau];omega
    have a9:=ah.out;exact zek X _ _ t u q S (zg d) (λb=>b<e.heap.size) d[i].choice _ (f.out.mkr.below s) (HM.out.below D) ((aa.out.mono (λb H _=>H)).kept (ZF D)) (λb D=>by omega) a7 (by omega) a5.1)
   have ab:Hid (∀X j o y n x E,Below wr.heap.size wr X->x=(q++y).getD n (0,0,0)->n<o.length->Mk j (e.heap.size+1+1) (e.heap.size+1) t o (q++y) E->Goes u o->o.length<=u.length+2 *wtC d[i].choice->DnP o (zg d) n (.group d[i].choice)->KpM [e.heap.size+1+1] X.heap.size X j->GrS X S E->Hid (MkL e (e.heap.size+1+1) (e.heap.size+1) t e.heap.size d (zg d) (i+1) (j.setCell ⟨e.heap.size,i,N⟩ (zT x)) o (q++y) E (V++[n]))):=z6 (λX j o y n x E s U R k O H hd l L=>z6 (f.out.next F (by omega) (by omega) (by omega) (by omega) (by omega) (by omega) s U R k O H hd l L));have ae:Hid (∀X j,Below wr.heap.size wr X->KpM [e.heap.size+1+1] X.heap.size X j->(∃Z:Array Value,j.heap[e.heap.size]?=some (.cells Z 226 (0,0))/\Z.size=d.length)/\j.heap[e.heap.size+1]?=some (Zz (.slice (some ⟨e.heap.size,0,N⟩) d.length d.length) ⟨#[]⟩ (.map N) .nilIface)):=z6 (λX j s l=>by
    have av:=s.size;obtain⟨Y,k,h2,_⟩:=f.out.row;have e1:=zd k;have e2:=zd f.out.mat;refine⟨⟨Y,?_,h2⟩,?_⟩;·rw[l.block _ (by omega) (by simp;omega),s.block _ e1];exact k
    ·rw[l.block _ (by omega) (by simp),s.block _ e2];exact f.out.mat)
   generalize d[i].name=nm at *;generalize d[i].choice=ch at *;generalize ai:ch.length=G at *;clear a2 a5 a7 aq c0 c1 ai;go_wp2_with fail;have an:e.heap.size+1+1≠e.heap.size:=by omega
   have ao:e.heap.size+1≠e.heap.size:=by omega
   have ap:wr.heap.size≠e.heap.size:=by omega
   have aC:e.heap.size≠wr.heap.size:=by omega
   have ax:i<d.length:=F;have aD:∀(a:Addr) (fn:Fn) (x c:Array Value) (W:World),(store a (.func fn x c)).run P W=stored P W a (.func fn x c) .plain:=λa fn x c W=>run_store P W a _ _ rfl;have HW:Hid (∀j:World,KpM [e.heap.size+1+1] ((wr.alloc (.cells #[.string ⟨nm.toArray⟩,.slice z G B] 142)).drew).heap.size ((wr.alloc (.cells #[.string ⟨nm.toArray⟩,.slice z G B] 142)).drew) j->j.heap[wr.heap.size]?=some (.cells #[.string ⟨nm.toArray⟩,.slice z G B] 142)):=z6 (λj l=>by rw[l.block wr.heap.size (by show _<(wr.alloc _).heap.size;simp) (by simp;omega)];exact zk _ _)
   go_region_held_law (λw'=>w'.cell? ⟨e.heap.size+1+1,0,N⟩=some (z9 (e.heap.size+1))/\w'.cell? ⟨e.heap.size+1,0,N⟩=some (.slice (some ⟨e.heap.size,0,N⟩) d.length d.length)/\w'.cell? ⟨wr.heap.size,1,N⟩=some (.slice z G B)) (first|exact⟨qU q0 an,qU q1 ao,qU q2 ap⟩|go_keep) (first|(go_at_call 119;refine(ag.out _ ((zc wr _).drew)).mono ?_;rintro _ j⟨o,y2,n,x,E,rfl,U,R,k,O,a6,hd,l,L⟩;obtain⟨⟨Y,M,aj⟩,a1⟩:=ae.out _ j ((zc wr _).drew) l;have q0:j.cell? ⟨e.heap.size+1+1,0,N⟩=some (z9 (e.heap.size+1)):=z8 k.blk 0;have q1:j.cell? ⟨e.heap.size+1,0,N⟩=some (.slice (some ⟨e.heap.size,0,N⟩) d.length d.length):=z8 a1 0;have q2:j.cell? ⟨wr.heap.size,1,N⟩=some (.slice z G B):=z8 (HW.out j l) 1;have f1:=zi M i;obtain⟨ov,q3⟩:∃v,j.cell? ⟨e.heap.size,i,N⟩=some v:=⟨Y[i]'(by omega),(by rw[z8 M i];exact Array.getElem?_eq_getElem _)⟩;have ay:=za M;have az:=za k.blk;have aA:=za a1;have HF:=ab.out _ j o y2 n x E ((zc wr _).drew) U R k O a6 hd l L;clear U k O a6 hd l L R M a1 aj));all_goals go_wp2_with fail
   all_goals
    go_roundg (d.length-(i+1));case measure=>omega
    case rel=>exact⟨i+1,_,_,_,_,rfl,by go_num,by omega,HF⟩
  ·have am:¬(i:Int)<d.length:=by omega
   have ak:i=d.length:=by omega
   subst ak;have k0:wr.cell? ⟨e.heap.size+1+1,0,N⟩=some (z9 (e.heap.size+1)):=z8 f.out.mkr.blk 0;have al:=za f.out.mkr.blk;have HZ:Hid (zaJ d e (.returned (z9 (e.heap.size+1))) wr):=z6 ⟨e.heap.size+1,u,q,V,_,_,rfl,f.out.mat' (by omega),f.out.mat,⟨f.out.len,λi k h2=>f.out.dn i h2 k⟩,f.out.bel,by omega,λb D=>by
    rcases D with D|rfl;·exact f.out.gr b D
    ·exact .inl (Nat.le_refl _)⟩
   go_wp2_with fail;go_ret;exact HZ.out
end
end Go.Proofs.YtiganlkabilblaaGreatDoor
