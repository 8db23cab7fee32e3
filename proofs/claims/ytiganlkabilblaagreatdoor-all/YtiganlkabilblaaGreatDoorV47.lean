import Derived.Test.YtiganlkabilblaaGreatDoorV46
import Derived.Laws.BytesString
import Derived.Test.YtiganlkabilblaaGreatDoorV44
import Derived.Test.YtiganlkabilblaaGreatDoorV41
import Derived.Deep.RegionHeld
set_option linter.all false
set_option maxHeartbeats 64000000
set_option maxRecDepth 100000
namespace Go.Proofs.YtiganlkabilblaaGreatDoor
open Tryz
open Tryz renaming prog->P
open Option renaming some->S,none->N
open Value renaming int->I
open IntKind renaming i64->J
section
open Go.RowKit Go.Lib
attribute [local go_sem ↓] Go.wp_at_zero Go.wp_at_succ
theorem zf1(l:List UInt8)(a:ByteArray):((l.map (λb=>(b.toNat:Int))).foldl (λr n=>r.push (UInt8.ofNat n.toNat)) a)=⟨(a.data.toList++l).toArray⟩:=by
 induction l generalizing a with
 |nil=>simp|cons b l c=>simp only[List.map_cons,List.foldl_cons];rw[c];simp[ByteArray.push]
theorem zcy{w:World}{B:Nat}{v:Value}{s:ByteArray}(h:w.ownsRow B 5 1 v s.size (strCells s)):(convert 117 9 v).run prog w=.ok (.string s) w:=by
 have hu:prog.underlying 5=some (.int .u8):=by kernel_rfl
 rcases h.2 with⟨rfl,h0⟩|⟨g,cap,cur,rfl,hbg,hg,hnc,hcm,hcs,htake⟩
 ·rw[run_convert_bytes_string w _ _ _ _ _ _ underlying117 hu underlying9];have hs:s=⟨#[]⟩:=by apply ByteArray.ext;exact Array.eq_empty_of_size_eq_zero h0
  subst hs;rfl
 ·rw[run_convert_bytes_string w _ _ _ _ _ _ underlying117 hu underlying9];have hns:strCells s=(s.data.toList.map (λb=>(b.toNat:Int))).map (Value.int .u8):=by rw[strCells,List.map_map];rfl
  have hl:=run_loadCells_list (P:=prog) w ⟨g,0,none⟩ (strCells s) (λj u hu=>h.cells (g:=g) rfl j u hu);rw[strCells_length,hns]at hl;rw[run_bytesToString w ⟨g,0,none⟩ s.size cap _ hl,zf1];simp
theorem zhx{o:Out}{c:Int}{d:Value}(h:J1 0 0 o=.agg #[I J 0,I J 0,I J c,d])(b:Nat)(e:Int)(a:Value):rdU b e a o=ZE b e a c d o.isSome:=by
 cases o with
 |none=>simp[J1]at h;obtain⟨rfl,rfl⟩:=h;rfl
 |some x=>simp[J1]at h;obtain⟨rfl,rfl⟩:=h;rfl
theorem zeK{i f:World}{a d:Nat}{p q r:Value}{c:Int}{ok:Bool}(D:f.heap[a]?=S (ZE d 1 p c q ok))(z:f.heap[d]?=S (Zz r ⟨#[]⟩ (.map N) .nilIface))(l:KpM [d] i.drew.heap.size i.drew f)(B:a≠d)(j:Int)(m:Value)(b:Bool):(((((((f.setCell ⟨a,3,N⟩ (I J 0)).setCell ⟨a,4,N⟩ (I J 0)).setCell ⟨a,5,N⟩ (I J j)).setCell ⟨a,6,N⟩ m).setCell ⟨a,7,N⟩ (.bool b)).setCell ⟨a,1,N⟩ (I .u8 2)).setCell ⟨a,2,N⟩ (.slice N 0 0)).heap[a]?=S (ZE d 2 (.slice N 0 0) j m b)/\(((((((f.setCell ⟨a,3,N⟩ (I J 0)).setCell ⟨a,4,N⟩ (I J 0)).setCell ⟨a,5,N⟩ (I J j)).setCell ⟨a,6,N⟩ m).setCell ⟨a,7,N⟩ (.bool b)).setCell ⟨a,1,N⟩ (I .u8 2)).setCell ⟨a,2,N⟩ (.slice N 0 0)).heap[d]?=S (Zz r ⟨#[]⟩ (.map N) .nilIface)/\KpM [a,d] i.heap.size i (((((((f.setCell ⟨a,3,N⟩ (I J 0)).setCell ⟨a,4,N⟩ (I J 0)).setCell ⟨a,5,N⟩ (I J j)).setCell ⟨a,6,N⟩ m).setCell ⟨a,7,N⟩ (.bool b)).setCell ⟨a,1,N⟩ (I .u8 2)).setCell ⟨a,2,N⟩ (.slice N 0 0)):=by
 refine⟨?_,?_,?_⟩;·have n:(f.setCell ⟨a,3,N⟩ (I J 0)).heap[a]?=S (ZE d 1 p c q ok):=zo D _;have s:((f.setCell ⟨a,3,N⟩ (I J 0)).setCell ⟨a,4,N⟩ (I J 0)).heap[a]?=S (ZE d 1 p c q ok):=zo n _;have t:=zo (o:=5) s (I J j);have u:=zo (o:=6) t m;have v:=zo (o:=7) u (.bool b);have w:=zo (o:=1) v (I .u8 2);have x:=zo (o:=2) w (.slice N 0 0);rw[x];simp
 ·have g:d≠a:=λe=>B e.symm;rw[Below.heap_setCell _ _ _ _ g,Below.heap_setCell _ _ _ _ g,Below.heap_setCell _ _ _ _ g,Below.heap_setCell _ _ _ _ g,Below.heap_setCell _ _ _ _ g,Below.heap_setCell _ _ _ _ g,Below.heap_setCell _ _ _ _ g];exact z
 ·have n:KpM [a,d] i.heap.size i f:=⟨l.os,l.tape,l.output,l.size,λk y A=>l.block k y (λh=>A (by simp at h|-;exact .inr h))⟩;exact((((((n.set (by simp) _).set (by simp) _).set (by simp) _).set (by simp) _).set (by simp) _).set (by simp) _).set (by simp) _
end
section
open Go.RowKit
attribute [local go_sem ↓] Go.wp_at_zero Go.wp_at_succ
abbrev QK(t s:ByteArray)(b:Bool):Obj:=.cells #[.string t,.string s,.bool b] 282 (0,0)
def zdz(s:ByteArray)(w:World)(e:Ending)(d:World):Prop:=Below w.heap.size w d/\∃c,Zo s.data.toList c/\match c with| .error (b,_)=>b≠0/\e=.returned (.tuple #[.pointer N,I J b])| .ok _=>∃a,e=.returned (.tuple #[z9 a,I J 0])/\d.heap[a]?=S (QK s ⟨#[]⟩ false)/\w.heap.size<=a
theorem zhZ(s:ByteArray)(w:World)(j:s.size<=maxLen)(r:Except (Nat×Nat) (List ze))(a:Zs s.data.toList r):Calls P 113 #[.string s] w (zdz s w):=by
 have h:=zhv s w j r a;clear a;go_enter func113,ntmps113;go_wp2_with fail;refine h.mono ?_;rintro e l⟨d,k,a,b⟩;have f:=z6 d;have c:=z6 a;have i:=d.size;clear h d a;cases k with
 |error x=>
  obtain⟨g,p⟩:=x;have m:=c.out.errNe;have n:¬(g:Int)=0:=by omega
  simp only[]at b;subst b;go_wp2_with fail;go_ret2;exact⟨f.out,.error (g,p),c.out,by omega,rfl⟩
 |ok y=>simp only[]at b;subst b;go_wp2_with fail;go_ret2;exact⟨f.out.alloc i _,.ok y,c.out,l.heap.size,rfl,zk _ _,i⟩
def Kx(c:Nat)(t s p:ByteArray)(b:Bool)(w:World)(e:Ending)(a:World):Prop:=if b=true then e=.returned (I J 10)/\a=w else if 200<s.size+p.size then e=.returned (I J 9)/\a=w else e=.returned (I J 0)/\a.heap[c]?=S (QK t (s++p) false)/\KpM [c] w.heap.size w a
theorem zam{w:World}{a:Nat}{t s p:ByteArray}{b:Bool}(h:w.heap[a]?=S (QK t s b))(g:s.size<=200)(f:p.size<=281474976710656):Calls P 114 #[z9 a,.string p] w (Kx a t s p b w):=by
 have j:=z8 h;have e:=zi h;have i:=za h;have H:=z6 h;clear h;go_enter func114,ntmps114;cases b with
 |true=>go_wp2_with fail;go_ret;exact⟨rfl,rfl⟩
 |false=>
  by_cases c:200<s.size+p.size
  ·have d:(200:Int)<(s.size:Int)+(p.size:Int):=by omega
   go_wp2_with fail;go_ret;unfold Kx;rw[if_neg (by decide),if_pos c];exact⟨rfl,rfl⟩
  ·have d:¬(200:Int)<(s.size:Int)+(p.size:Int):=by omega
   go_wp2_with fail;go_ret;unfold Kx;rw[if_neg (by decide),if_neg c];exact⟨rfl,zo H.out _,(KpM.refl _ _ _).set (List.mem_singleton.mpr rfl) _⟩
def Kw(c:Nat)(t s:ByteArray)(b:Bool)(w:World)(e:Ending)(a:World):Prop:=if b=true then e=.returned (.tuple #[I J 0,.bool false,I J 10])/\a=w else∃x y z,e=.returned (.tuple #[x,y,z])/\Ys t.data.toList s x y z/\a.heap[c]?=S (QK t s true)/\KpM [c] w.heap.size w a
theorem zcj{w:World}{a:Nat}{t s:ByteArray}{b:Bool}(h:w.heap[a]?=S (QK t s b))(A:t.size<=maxLen)(B:s.size<=maxLen)(r:Except (Nat×Nat) (List ze))(m:Zs t.data.toList r):Calls P 115 #[z9 a] w (Kw a t s b w):=by
 have U:=z8 h;have K:=zi h;have D:=za h;have H:=z6 h;have j:=z6 (λW:World=>zhX t s W A B r m);clear h m;go_enter func115,ntmps115;cases b with
 |true=>go_wp2_with fail;go_ret3;exact⟨rfl,rfl⟩
 |false=>
  have k:Hid (∀c x y z,Below (w.setCell ⟨a,2,N⟩ (.bool true)).heap.size (w.setCell ⟨a,2,N⟩ (.bool true)) c->Ys t.data.toList s x y z->c.heap[a]?=S (QK t s true)/\Kw a t s false w (.returned (.tuple #[x,y,z])) c):=z6 (λc x y z f d=>by
   have o:c.heap[a]?=S (QK t s true):=by rw[f.block a (by simpa[World.setCell]using D)];exact zo H.out _
   refine⟨o,?_⟩;unfold Kw;rw[if_neg (by decide)];exact⟨x,y,z,rfl,d,o,((KpM.refl _ _ _).set (List.mem_singleton.mpr rfl) _).trans ((KpM.of_below f).mono (by simp[World.setCell]))⟩)
  have g:(w.setCell ⟨a,2,N⟩ (.bool true)).heap[a]?=S (QK t s true):=zo H.out _;have q:Hid (∀W:World,Below (w.setCell ⟨a,2,N⟩ (.bool true)).heap.size (w.setCell ⟨a,2,N⟩ (.bool true)) W->Calls P 46 #[.string t,.string s] W λe c=>∃(x:Int) (y:Bool) (z:Int),e=.returned (.tuple #[I J x,.bool y,I J z])/\c.cell? ⟨a,0,N⟩=S (.string t)/\c.cell? ⟨a,1,N⟩=S (.string s)/\Hid (Kw a t s false w (.returned (.tuple #[I J x,.bool y,I J z])) c)):=z6 (λW n=>(j.out W).mono (λe c u=>by obtain⟨f,x,y,z,rfl,d⟩:=u.is;obtain⟨E,F,G,rfl,rfl,rfl⟩:=d.form;obtain⟨l,v⟩:=k.out c _ _ _ (n.trans (f.mono n.size)) d;exact⟨E,F,G,rfl,z8 l 0,z8 l 1,v⟩))
  have O:(w.setCell ⟨a,2,N⟩ (.bool true)).cell? ⟨a,0,N⟩=S (.string t):=z8 g 0;have R:(w.setCell ⟨a,2,N⟩ (.bool true)).cell? ⟨a,1,N⟩=S (.string s):=z8 g 1;clear j k g;go_wp2_with fail;go_region_held (λp=>p.cell? ⟨a,0,N⟩=S (.string t)/\p.cell? ⟨a,1,N⟩=S (.string s)) (go_keep) (first|(go_at_call 46;refine(q.out _ ((Below.refl _ _).drew)).mono ?_;rintro _ c⟨x,y,z,rfl,L,M,i⟩));all_goals go_wp2_with fail
  all_goals first|exact i.out|(go_ret3;exact i.out)
def V9(t s:ByteArray)(b:Bool)(w:World)(e:Ending)(a:World):Prop:=if b=true then qF t.data.toList s w e a else e=.returned (.tuple #[.slice N 0 0,I J 11])/\a=w
theorem zao{w:World}{d:Nat}{t s:ByteArray}{b:Bool}(h:w.heap[d]?=S (QK t s b))(D:t.size<=maxLen)(E:s.size<=maxLen)(r:Except (Nat×Nat) (List ze))(q:Zs t.data.toList r):Calls P 116 #[z9 d] w (V9 t s b w):=by
 have j:=z8 h;have x:=za h;have m:=z6 (λW:World=>zil t s W D E r q);clear h q;go_enter func116,ntmps116;cases b with
 |false=>go_wp2_with fail;go_ret2;exact⟨rfl,rfl⟩
 |true=>
  have G:w.cell? ⟨d,0,N⟩=S (.string t):=j 0;have H:w.cell? ⟨d,1,N⟩=S (.string s):=j 1;have M:w.cell? ⟨d,2,N⟩=S (.bool true):=j 2;have z:Hid (∀W:World,Below w.heap.size w W->W.heap.size=w.heap.size->Calls P 47 #[.string t,.string s] W λe f=>∃a n g i,e=.returned (.tuple #[.slice a n g,I J i])/\f.cell? ⟨d,0,N⟩=S (.string t)/\f.cell? ⟨d,1,N⟩=S (.string s)/\Hid (V9 t s true w (.returned (.tuple #[.slice a n g,I J i])) f)):=z6 (λW u F=>(m.out W).mono (λe f A=>by obtain⟨B,v,c,rfl,o⟩:=A;obtain⟨a,n,g,i,rfl,rfl⟩:=o.form;have k:Below w.heap.size w f:=u.trans (B.mono u.size);exact⟨a,n,g,i,rfl,by rw[k.cell (p:=⟨d,0,N⟩) x];exact G,by rw[k.cell (p:=⟨d,1,N⟩) x];exact H,k,_,_,rfl,by rw[<-F];exact o⟩))
  clear m j;go_wp2_with fail;go_region_held (λy=>y.cell? ⟨d,0,N⟩=S (.string t)/\y.cell? ⟨d,1,N⟩=S (.string s)) (go_keep) (first|(go_at_call 47;refine(z.out _ ((Below.refl _ _).drew) rfl).mono ?_;rintro _ f⟨a,n,g,i,rfl,K,L,l⟩));all_goals go_wp2_with fail
  all_goals first|exact l.out|(go_ret2;exact l.out)
def qA(c:Nat)(t:ByteArray)(b:Bool)(w:World)(e:Ending)(a:World):Prop:=if b=true then e=.returned (I J 0)/\a.heap[c]?=S (QK t ⟨#[]⟩ false)/\KpM [c] w.heap.size w a else e=.returned (I J 11)/\a=w
theorem zc9{w:World}{a:Nat}{t s:ByteArray}{b:Bool}(h:w.heap[a]?=S (QK t s b)):Calls P 117 #[z9 a] w (qA a t b w):=by
 have e:=z8 h;have c:=zi h;have d:=za h;have H:=z6 h;clear h;go_enter func117,ntmps117;cases b with
 |false=>go_wp2_with fail;go_ret;exact⟨rfl,rfl⟩|true=>go_wp2_with fail;go_ret;exact⟨rfl,zo (zo H.out _) _,((KpM.refl _ _ _).set (List.mem_singleton.mpr rfl) _).set (List.mem_singleton.mpr rfl) _⟩
end
section
open Go.RowKit Go.Lib
structure Pr where
 xb:Nat
 cb:Nat
 mb:Nat
 N:List Nd
 bx:List (Nat×Nat×Nat)
 rs:List Nat
 vr:Value
 S:Nat->Prop
 t:ByteArray
 g:List ze
 E:List Bool
 s:ByteArray
 dn:Bool
 iv:Value
def Pr.mut(p:Pr)(x:Nat):Prop:=x=p.xb\/x=p.mb\/x=p.cb\/p.iv.ownBlock=some x
def Pr.rd(B:Nat)(w:World)(p:Pr):Prop:=if p.dn=true then p.iv=.slice none 0 0/\∃o,(∀h:0<p.g.length,Ev p.g p.s.data.toList (.C p.g[0].choice) 0 o)/\w.heap[p.xb]?=some (rdU p.mb 2 (.slice none 0 0) o)else w.heap[p.xb]?=some (ZE p.mb 1 p.iv 0 .nilIface false)/\w.ownsRow B 5 1 p.iv p.s.size (strCells p.s)
structure Z2(B:Nat)(F:Nat->Prop)(w:World)(p:Pr):Prop where
 tsz:p.t.size<=maxLen
 all:Zo p.t.data.toList (.ok (p.g,p.E))
 ted:Jv w p.mb p.N p.bx p.rs p.vr p.S
 blk:w.heap[p.mb]?=some (Zz p.vr ⟨#[]⟩ (.map none) .nilIface)
 dnr:DnR p.N p.rs p.g
 ssz:p.s.size<=200
 cbk:w.heap[p.cb]?=some (QK p.t p.s p.dn)
 rd:p.rd B w
 mu:∀x,p.mut x->F x/\¬p.S x
 fS:∀x,p.S x->F x\/QA w x
theorem YV{w:World}{b:Nat}{d:Array Value}{T:TypeId}(c:w.heap[b]?=S (.cells d T (0,0)))(e:T≠313):b<w.heap.size/\¬QA w b:=by refine⟨zd c,?_⟩;rintro⟨f,a⟩;rw[c]at a;simp at a;exact e a.2
theorem Z2.xcells{B:Nat}{F:Nat->Prop}{w:World}{p:Pr}(h:Z2 B F w p):∃f d c b ok,w.heap[p.xb]?=S (ZE p.mb f d c b ok):=by
 have:=h.rd;unfold Pr.rd at this;by_cases hd:p.dn=true;·rw[if_pos hd]at this;obtain⟨_,o,_,a⟩:=this;obtain⟨c,b,e⟩:=zcc p.mb 2 (.slice N 0 0) o;rw[e]at a;exact⟨_,_,_,_,_,a⟩
 ·rw[if_neg hd]at this;exact⟨_,_,_,_,_,this.1⟩
theorem Z2.typ{B:Nat}{F:Nat->Prop}{w:World}{p:Pr}(h:Z2 B F w p){x:Nat}(a:p.mut x):x<w.heap.size/\¬QA w x:=by
 rcases a with rfl|rfl|rfl|a;·obtain⟨_,_,_,_,_,e⟩:=h.xcells;exact YV e (by decide)
 ·exact YV h.blk (by decide)
 ·exact YV h.cbk (by decide)
 ·have:=h.rd;unfold Pr.rd at this;by_cases hd:p.dn=true;·rw[if_pos hd]at this;rw[this.1]at a;simp[Value.ownBlock]at a
  ·rw[if_neg hd]at this;obtain⟨c,b⟩:=Zr this.2 a;exact YV b (by decide)
def MuT(T:TypeId):Prop:=T=119\/T=177\/T=282\/T=5
theorem Z2.typ2{B:Nat}{F:Nat->Prop}{w:World}{p:Pr}(h:Z2 B F w p){x:Nat}(a:p.mut x):∃b T,w.heap[x]?=S (.cells b T (0,0))/\MuT T:=by
 rcases a with rfl|rfl|rfl|a;·obtain⟨_,_,_,_,_,e⟩:=h.xcells;exact⟨_,_,e,.inl rfl⟩
 ·exact⟨_,_,h.blk,.inr (.inl rfl)⟩
 ·exact⟨_,_,h.cbk,.inr (.inr (.inl rfl))⟩
 ·have:=h.rd;unfold Pr.rd at this;by_cases hd:p.dn=true;·rw[if_pos hd]at this;rw[this.1]at a;simp[Value.ownBlock]at a
  ·rw[if_neg hd]at this;obtain⟨d,c⟩:=Zr this.2 a;exact⟨_,_,c,.inr (.inr (.inr rfl))⟩
theorem Z2.keep{B:Nat}{F i:Nat->Prop}{w e:World}{p:Pr}(h:Z2 B F w p)(r:w.heap.size<=e.heap.size)(hF:∀x,x<w.heap.size->F x->i x)(f:∀x,x<w.heap.size->F x\/QA w x->e.heap[x]?=w.heap[x]?):Z2 B i e p:=by
 have d:∀x,p.mut x->e.heap[x]?=w.heap[x]?:=λx a=>f x (h.typ a).1 (.inl (h.mu x a).1);refine⟨h.tsz,h.all,h.ted.same r (λb k=>f b (h.ted.lt b k) (h.fS b k)),?_,h.dnr,h.ssz,?_,?_,?_,?_⟩;·rw[d _ (.inr (.inl rfl))];exact h.blk
 ·rw[d _ (.inr (.inr (.inl rfl)))];exact h.cbk
 ·have:=h.rd;unfold Pr.rd at this|-;by_cases hd:p.dn=true;·rw[if_pos hd]at this|-;obtain⟨c,o,m,n⟩:=this;exact⟨c,o,m,by rw[d _ (.inl rfl)];exact n⟩
  ·rw[if_neg hd]at this|-;exact⟨by rw[d _ (.inl rfl)];exact this.1,Z6 this.2 (λg q=>d g (.inr (.inr (.inr q))))⟩
 ·exactλx a=>⟨hF x (h.typ a).1 (h.mu x a).1,(h.mu x a).2⟩
 ·intro x a;have l:=h.ted.lt x a;rcases h.fS x a with c|⟨j,c⟩;·exact .inl (hF x l c)
  ·exact .inr ⟨j,by rw[f x l (.inr ⟨j,c⟩)];exact c⟩
theorem GrW.trans{a b c:World}{d:Nat->Prop}(h:GrW a b d)(k:GrW b c d):GrW a c d:=⟨k.os.trans h.os,k.tape.trans h.tape,k.output.trans h.output,Nat.le_trans h.size k.size,λx f e=>(k.block x (Nat.lt_of_lt_of_le f h.size) e).trans (h.block x f e)⟩
theorem GrW.imp{a b:World}{c d:Nat->Prop}(h:GrW a b c)(f:∀x,c x->d x):GrW a b d:=⟨h.os,h.tape,h.output,h.size,λx i g=>h.block x i (λe=>g (f x e))⟩
theorem GrW.refl(a:World)(b:Nat->Prop):GrW a a b:=⟨rfl,rfl,rfl,Nat.le_refl _,λ_ _ _=>rfl⟩
theorem KpM.grw{c:List Nat}{a b:World}{d:Nat->Prop}(h:KpM c a.heap.size a b)(f:∀x,x∈c->d x):GrW a b d:=⟨h.os,h.tape,h.output,h.size,λx i g=>h.block x i (λe=>g (f x e))⟩
theorem zfb{a b:World}(d:Nat->Prop)(h:Below a.heap.size a b):GrW a b d:=⟨h.os,h.tape,h.output,h.size,λx c _=>h.block x c⟩
theorem Z2.upd{B:Nat}{F:Nat->Prop}{w c:World}{p:Pr}(h:Z2 B F w p)(j:GrW w c p.mut){e:ByteArray}{f:Bool}{g:Value}(t:e.size<=200)(m:c.heap[p.mb]?=S (Zz p.vr ⟨#[]⟩ (.map N) .nilIface))(n:c.heap[p.cb]?=S (QK p.t e f))(r:Pr.rd B c {p with s:=e,dn:=f,iv:=g})(o:∀x,g.ownBlock=S x->p.iv.ownBlock=S x\/w.heap.size<=x):Z2 B (λx=>F x\/w.heap.size<=x) c {p with s:=e,dn:=f,iv:=g}:=by
 have i:∀x,p.S x->c.heap[x]?=w.heap[x]?:=λx a=>j.block x (h.ted.lt x a) (λq=>(h.mu x q).2 a);refine⟨h.tsz,h.all,h.ted.same j.size i,m,h.dnr,t,n,r,?_,?_⟩
 ·have d:∀x,p.mut x->(F x\/w.heap.size<=x)/\¬p.S x:=λx a=>⟨.inl (h.mu x a).1,(h.mu x a).2⟩;rintro x(rfl|rfl|rfl|a);·exact d _ (.inl rfl)
  ·exact d _ (.inr (.inl rfl))
  ·exact d _ (.inr (.inr (.inl rfl)))
  ·rcases o x a with b|b;·exact d _ (.inr (.inr (.inr b)))
   ·exact⟨.inr b,λl=>by have:=h.ted.lt x l;omega⟩
 ·intro x a;rcases h.fS x a with b|⟨k,b⟩;·exact .inl (.inl b)
  ·exact .inr ⟨k,by rw[i x a];exact b⟩
abbrev Qe(p:Pr):List Value:=[z9 p.xb,z9 p.cb]
theorem zh6{a:List Pr}{i:Nat}(c:i<a.length){p:Pr}(b:Qe p=Qe a[i]):(a.set i p).flatMap Qe=a.flatMap Qe:=by
 rw[List.flatMap_def,List.flatMap_def,List.map_set,b];congr 1;have:Qe a[i]=(a.map Qe)[i]'(by simpa using c):=by simp
 rw[this,List.set_getElem_self]
theorem zc2{w:World}{B C n k f g:Nat}{T U:TypeId}{v u:Value}{i j:List Value}(h:w.ownsRow B T f v n i)(k:w.ownsRow C U g u k j)(c:T≠U){x:Nat}(d:v.ownBlock=S x):u.ownBlock≠S x:=λe=>by obtain⟨l,b⟩:=Zr h d;obtain⟨m,a⟩:=Zr k e;rw[b]at a;simp at a;exact c a.2
abbrev bTB(q:Bool):TypeId:=cond q 154 163
abbrev bTS(q:Bool):TypeId:=cond q 92 53
abbrev bsz(q:Bool):Nat:=cond q 2 4
abbrev bz(q:Bool)(m:Nat):List Value:=cond q (yL m) (zL m)
abbrev bcs(q:Bool)(vp:Value)(vv:Bool->Value)(u:Value):Array Value:=cond q #[vp,vv false,u] #[vp,u,vv true]
theorem ztD{q a:Bool}(h:q≠a):bTB q≠bTB a:=by cases q<;>cases a<;>first|exact absurd rfl h|decide
theorem zsQ(q:Bool):167≠bTB q/\bTB q≠313:=by cases q<;>decide
structure PlX(w0:World)(yb:Nat)(o:Nat->Nat)(ps:List Pr)(bk:Bool->List Nat)(w:World)(vp:Value)(vv:Bool->Value):Prop where
 e1:w.heap[yb]?=some (plO vp (vv false) (vv true))
 e2:w.ownsRow w0.heap.size 167 2 vp ps.length (ps.flatMap Qe)
 e3:∀q,w.ownsRow w0.heap.size (bTB q) 1 (vv q) (bk q).length ((bk q).map Jy)
 e4:∀x,vp.ownBlock=some x->o x=0
 e5:∀q x,(vv q).ownBlock=some x->o x=0
structure zqU(w0:World)(yb:Nat)(o:Nat->Nat)(ps:List Pr)(bk:Bool->List Nat)(w:World):Prop where
 bel:Below w0.heap.size w0 w
 ex:∃vp vv,PlX w0 yb o ps bk w vp vv
 yo:o yb=0
 yge:w0.heap.size<=yb
 ent:∀q i (h:i<(bk q).length),zrB (bTS q) (bsz q) (bz q i) (λx=>o x=1/\w0.heap.size<=x) w (bk q)[i]
 prs:∀i (h:i<ps.length),Z2 w0.heap.size (λx=>o x=i+2/\w0.heap.size<=x) w ps[i]
section
variable {w0 w w' : World} {yb : Nat} {o : Nat → Nat} {ps : List Pr} {bk : Bool → List Nat} {vp : Value} {vv : Bool → Value}
theorem PlX.same(h:PlX w0 yb o ps bk w vp vv){o':Nat->Nat}(b:∀x,x<w.heap.size->o x=0->w'.heap[x]?=w.heap[x]?/\o' x=0)(d:o yb=0):PlX w0 yb o' ps bk w' vp vv:=⟨by rw[(b yb (zd h.e1) d).1];exact h.e1,Z6 h.e2 (λg a=>(b g (h.e2.lt g a).2 (h.e4 g a)).1),λq=>Z6 (h.e3 q) (λg a=>(b g ((h.e3 q).lt g a).2 (h.e5 q g a)).1),λx c=>(b x (h.e2.lt x c).2 (h.e4 x c)).2,λq x c=>(b x ((h.e3 q).lt x c).2 (h.e5 q x c)).2⟩
theorem zqU.below(h:zqU w0 yb o ps bk w)(a:Below w.heap.size w w'):zqU w0 yb o ps bk w':=by obtain⟨vp,vv,e⟩:=h.ex;exact⟨h.bel.trans (a.mono h.bel.size),⟨vp,vv,e.same (λx c f=>⟨a.block x c,f⟩) h.yo⟩,h.yo,h.yge,λq i d=>(h.ent q i d).same a.size (λb c _=>a.block b c),λi d=>(h.prs i d).keep a.size (λ_ _ e=>e) (λx c _=>a.block x c)⟩
theorem zqU.pair(h:zqU w0 yb o ps bk w){i:Nat}(m:i<ps.length){p:Pr}(v:Qe p=Qe ps[i])(f:GrW w w' ps[i].mut)(y:Z2 w0.heap.size (λx=>(o x=i+2/\w0.heap.size<=x)\/w.heap.size<=x) w' p):∃z,zqU w0 yb z (ps.set i p) bk w':=by
 have k:=h.prs i m;have t:w0.heap.size<=w.heap.size:=h.bel.size;have l:∀x,x<w.heap.size->o x≠i+2\/QA w x->w'.heap[x]?=w.heap[x]?:=λx a d=>f.block x a (λr=>by
  rcases d with d|d;·exact d (k.mu x r).1.1
  ·exact(k.typ r).2 d)
 obtain⟨vp,vv,a⟩:=h.ex;have e:=a.same (w':=w') (o':=λx=>if x<w.heap.size then o x else i+2) (λx c s=>⟨l x c (.inl (by rw[s];omega)),by simp only[c,if_true];exact s⟩) h.yo;refine⟨λx=>if x<w.heap.size then o x else i+2,h.bel.trans (f.belowOf t (λx a=>(k.mu x a).1.2)),⟨vp,vv,e.e1,by rw[List.length_set,zh6 m v];exact e.e2,e.e3,e.e4,e.e5⟩,?_,h.yge,?_,?_⟩;·simp only[zd a.e1,if_true];exact h.yo
 ·intro q j g;exact((h.ent q j g).lt.same f.size (λb u hF=>l b u (.inl (by rw[hF.1.1];omega)))).imp (λx a=>⟨by simp only[a.2,if_true];exact a.1.1,a.1.2⟩)
 ·intro j g;rw[List.length_set]at g;by_cases n:i=j
  ·subst n;rw[List.getElem_set_self];refine y.keep (Nat.le_refl _) (λx _ a=> ?_) (λ_ _ _=>rfl);rcases a with a|a
   ·refine⟨?_,a.2⟩;by_cases c:x<w.heap.size;·simp only[c,if_true];exact a.1
    ·simp only[c,if_false]
   ·refine⟨?_,by omega⟩;simp only[Nat.not_lt.2 a,if_false]
  ·rw[List.getElem_set_ne n];refine(h.prs j g).keep f.size (λx c a=>⟨by simp only[c,if_true];exact a.1,a.2⟩) (λx c a=>l x c ?_);rcases a with a|a;·exact .inl (by rw[a.1];omega)
   ·exact .inr a
def bup(bk:Bool->List Nat)(q:Bool)(a:Nat)(r:Bool):List Nat:=if r=q then bk r++[a]else bk r
theorem zqU.booked(h:zqU w0 yb o ps bk w)(a:PlX w0 yb o ps bk w vp vv)(q:Bool)(H:zsg (bcs q vp vv) (bTS q) (bTB q) (bsz q) (bz q (bk q).length) yb w0.heap.size (bk q).length (vv q) ((bk q).map Jy) w w'):∃t O,zqU w0 yb O ps (bup bk q t) w':=by
 obtain⟨p,t,R,U,V,l,W⟩:=H;have G:w0.heap.size<=w.heap.size:=h.bel.size;have s:∀x,(x=yb\/(vv q).ownBlock=S x)->o x=0/\w0.heap.size<=x/\¬QA w x:=by
  rintro x(rfl|c);·exact⟨h.yo,h.yge,(YV a.e1 (by decide)).2⟩
  ·obtain⟨F,f⟩:=Zr (a.e3 q) c;exact⟨a.e5 q x c,((a.e3 q).lt x c).1,(YV f (zsQ q).2).2⟩
 have A:∀x,x<w.heap.size->o x≠0\/QA w x->w'.heap[x]?=w.heap[x]?:=λx a f=>l.block x a (λz=>by
  rcases f with f|f;·exact f (s x z).1
  ·exact(s x z).2.2 f)
 have M:∀x,x<w.heap.size->p.ownBlock=S x->(vv q).ownBlock=S x:=λx a c=>by
  rcases W with e|⟨g,e,m⟩;·rw[<-e];exact c
  ·rw[e]at c;cases c;omega
 have y:∀{T:TypeId} {D n:Nat} {v:Value} {E:List Value},w.ownsRow w0.heap.size T D v n E->T≠bTB q->T≠36->w'.ownsRow w0.heap.size T D v n E:=λd L N=>Z6 d (λg m=>l.block g (d.lt g m).2 (by
  rintro(rfl|c);·obtain⟨F,f⟩:=Zr d m;rw[a.e1]at f;simp at f;exact N f.2.symm
  ·exact zc2 d (a.e3 q) L m c))
 refine⟨t,λx=>if x<w.heap.size then o x else if p.ownBlock=S x then 0 else 1,h.bel.trans (l.belowOf G (λx a=>(s x a).2.1)),⟨vp,λr=>if r=q then p else vv r,?_,y a.e2 (zsQ q).1 (by decide),?_,?_,?_⟩,?_,h.yge,?_,?_⟩;·rw[R];cases q<;>rfl
 ·intro r;by_cases d:r=q;·subst d;simpa[bup]using U
  ·simp only[bup,if_neg d];exact y (a.e3 r) (ztD d) (by cases r<;>decide)
 ·intro x c;simp only[(a.e2.lt x c).2,if_true];exact a.e4 x c
 ·intro r x c;by_cases d:r=q
  ·subst d;simp only[if_true]at c;by_cases k:x<w.heap.size;·simp only[k,if_true];exact a.e5 r x (M x k c)
   ·simp only[k,if_false,c,if_true]
  ·simp only[if_neg d]at c;simp only[((a.e3 r).lt x c).2,if_true];exact a.e5 r x c
 ·simp only[zd a.e1,if_true];exact h.yo
 ·have B:∀r j (i:j<(bk r).length),zrB (bTS r) (bsz r) (bz r j) (λx=>(if x<w.heap.size then o x else if p.ownBlock=S x then 0 else 1)=1/\w0.heap.size<=x) w' (bk r)[j]:=λr j i=>((h.ent r j i).lt.same l.size (λb J hF=>A b J (.inl (by rw[hF.1.1];decide)))).imp (λx a=>⟨by simp only[a.2,if_true];exact a.1.1,a.1.2⟩);intro r j i;by_cases d:r=q
  ·subst d;simp only[bup,if_true]at i|-;by_cases u:j<(bk r).length;·rw[List.getElem_append_left u];exact B r j u
   ·have K:j=(bk r).length:=by simp at i;omega
    subst K;rw[List.getElem_append_right (Nat.le_refl _)];simp only[Nat.sub_self,List.getElem_cons_zero];refine V.imp (λx a=>⟨?_,by omega⟩);simp only[Nat.not_lt.2 a.1,if_false,a.2,if_false]
  ·simp only[bup,if_neg d]at i|-;exact B r j i
 ·intro j i;refine(h.prs j i).keep l.size (λx k a=>⟨by simp only[k,if_true];exact a.1,a.2⟩) (λx k a=>A x k ?_);rcases a with a|a;·exact .inl (by rw[a.1];omega)
  ·exact .inr a
theorem zqU.more{n:World}{vp':Value}{p:Pr}(h:zqU w0 yb o ps bk w)(a:PlX w0 yb o ps bk w vp vv)(s:Below w.heap.size w n)(M:Z2 w0.heap.size (λx=>w.heap.size<=x) n p)(r:GrW n w' (λx=>x=yb\/vp.ownBlock=S x))(N:w'.heap[yb]?=S (plO vp' (vv false) (vv true)))(L:w'.ownsRow w0.heap.size 167 2 vp' (ps.length+1) (ps.flatMap Qe++Qe p))(l:vp'.ownBlock=vp.ownBlock\/∃g,vp'.ownBlock=S g/\n.heap.size<=g):∃O,zqU w0 yb O (ps++[p]) bk w':=by
 have G:w0.heap.size<=w.heap.size:=h.bel.size;have R:=s.size;have k:∀x,(x=yb\/vp.ownBlock=S x)->o x=0/\w0.heap.size<=x/\¬QA w x/\x<w.heap.size:=by
  rintro x(rfl|l);·exact⟨h.yo,h.yge,(YV a.e1 (by decide)).2,zd a.e1⟩
  ·obtain⟨D,c⟩:=Zr a.e2 l;exact⟨a.e4 x l,(a.e2.lt x l).1,(YV c (by decide)).2,zd c⟩
 have i:GrW w w' (λx=>x=yb\/vp.ownBlock=S x):=(zfb _ s).trans r;have A:∀x,x<w.heap.size->o x≠0\/QA w x->w'.heap[x]?=w.heap[x]?:=λx a c=>i.block x a (λf=>by
  rcases c with c|c;·exact c (k x f).1
  ·exact(k x f).2.2.1 c)
 have z:∀x,x<n.heap.size->vp'.ownBlock=S x->vp.ownBlock=S x:=λx a v=>by
  rcases l with e|⟨g,e,r⟩;·rw[<-e];exact v
  ·rw[e]at v;cases v;omega
 refine⟨λx=>if x<w.heap.size then o x else if vp'.ownBlock=S x then 0 else ps.length+2,h.bel.trans (i.belowOf G (λx a=>(k x a).2.1)),⟨vp',vv,N,by simpa using L,?_,?_,?_⟩,?_,h.yge,?_,?_⟩
 ·intro q;refine Z6 (a.e3 q) (λg t=>i.block g ((a.e3 q).lt g t).2 (λf=> ?_));rcases f with f|f;·subst f;obtain⟨D,c⟩:=Zr (a.e3 q) t;rw[a.e1]at c;simp at c;cases q<;>simp at c
  ·exact zc2 a.e2 (a.e3 q) (zsQ q).1 f t
 ·intro x m;by_cases d:x<w.heap.size;·simp only[d,if_true];exact a.e4 x (z x (by omega) m)
  ·simp only[d,if_false,m,if_true]
 ·intro q x m;simp only[((a.e3 q).lt x m).2,if_true];exact a.e5 q x m
 ·simp only[zd a.e1,if_true];exact h.yo
 ·intro q j u;exact((h.ent q j u).lt.same i.size (λb H hF=>A b H (.inl (by rw[hF.1.1];decide)))).imp (λx a=>⟨by simp only[a.2,if_true];exact a.1.1,a.1.2⟩)
 ·intro j u;by_cases y:j<ps.length
  ·rw[List.getElem_append_left y];refine(h.prs j y).keep i.size (λx d a=>⟨by simp only[d,if_true];exact a.1,a.2⟩) (λx d a=>A x d ?_);rcases a with a|a;·exact .inl (by rw[a.1];omega)
   ·exact .inr a
  ·have J:j=ps.length:=by simp at u;omega
   subst J;rw[List.getElem_append_right (Nat.le_refl _)];simp only[Nat.sub_self,List.getElem_cons_zero];refine M.keep r.size (λx d a=>⟨?_,by omega⟩) (λx d a=>r.block x d (λf=> ?_))
   ·have K:¬vp'.ownBlock=S x:=λe=>by have:=(k x (.inr (z x d e))).2.2.2;omega
    simp only[Nat.not_lt.2 a,if_false,K,if_false]
   ·obtain⟨_,_,E,F⟩:=k x f;rcases a with a|⟨B,a⟩;·omega
    ·exact E ⟨B,by rw[<-s.block x F];exact a⟩
end
end
section
open Go.RowKit Go.Lib
attribute [local go_sem ↓] Go.wp_at_zero Go.wp_at_succ
theorem zh7{w:World}{b i:Nat}{d c:Int}{g j:Value}{ok:Bool}(h:w.heap[b]?=S (ZE i d g c j ok))(f:¬d=1):Calls P 35 #[z9 b] w λe k=>e=.returned (.tuple #[I J 0,.bool false,I J 10])/\k=w:=by have a:=z6 (Ke (q:=1) h);clear h;go_enter func35,ntmps35;go_wp2_with fail;refine a.out.mono ?_;rintro _ l⟨rfl,rfl⟩;clear a;simp only[f,decide_false];go_wp2_with fail;go_ret3;exact⟨rfl,rfl⟩
theorem zh8{r:World}{a d a2:Nat}{c:Int}{n nv:Value}{ok:Bool}{G:ByteArray}{a7:List Nd}{bx:List (Nat×Nat×Nat)}{rs:List Nat}{K:Value}{S:Nat->Prop}{g:List ze}(h:r.heap[a]?=some (ZE d 1 n c nv ok))(hs:G.size<=200)(a1:r.ownsRow a2 5 1 n G.size (strCells G))(hM:Jv r d a7 bx rs K S)(hb:r.heap[d]?=some (Zz K ⟨#[]⟩ (.map N) .nilIface))(hR:DnR a7 rs g)(hg:0<g.length)(a9:g.length<=20)(o:Out)(ho:Ev g G.data.toList (.C g[0].choice) 0 o)(ab:zN o<=1000000)(a8:a≠d):Calls P 35 #[z9 a] r λe i=>e=.returned (.tuple #[I J (zN o),.bool o.isSome,I J 0])/\i.heap[a]?=some (rdU d 2 (.slice N 0 0) o)/\i.heap[d]?=some (Zz K ⟨#[]⟩ (.map N) .nilIface)/\KpM [a,d] r.heap.size r i:=by
 have HI:=z6 (Ke (q:=1) h);have hl:=zd h;have z0:=z8 h;have H:=z6 h;have E:=z6 (zgB (w:=r.drew) (hM.same (Nat.le_refl _) (λ_ _=>rfl)) hb hR hg a9 (by omega) o ho);have a4:=zcy a1;have a3:=zcy (w:=r.drew) (B:=a2) (v:=n) (s:=G) (by exact a1);clear h a1 hM hb hR ho;go_enter func35,ntmps35;go_wp2_with fail;refine HI.out.mono ?_;rintro _ y⟨rfl,rfl⟩;clear HI;simp only[decide_true];obtain⟨l,x,O,aa⟩:=zjw o;rw[O]at E;have L:Hid (∀f,KpM [d] y.drew.heap.size y.drew f->f.heap[a]?=some (ZE d 1 n c nv ok)):=z6 (λf hk=>by rw[hk.block a hl (by simpa using a8)];exact H.out);have M:Hid (∀f:World,f.heap[a]?=some (ZE d 1 n c nv ok)->f.heap[d]?=some (Zz K ⟨#[]⟩ (.map N) .nilIface)->KpM [d] y.drew.heap.size y.drew f->(((((((f.setCell ⟨a,3,N⟩ (I J 0)).setCell ⟨a,4,N⟩ (I J 0)).setCell ⟨a,5,N⟩ (I J l)).setCell ⟨a,6,N⟩ x).setCell ⟨a,7,N⟩ (.bool o.isSome)).setCell ⟨a,1,N⟩ (I .u8 2)).setCell ⟨a,2,N⟩ (.slice N 0 0)).heap[a]?=some (ZE d 2 (.slice N 0 0) l x o.isSome)/\(((((((f.setCell ⟨a,3,N⟩ (I J 0)).setCell ⟨a,4,N⟩ (I J 0)).setCell ⟨a,5,N⟩ (I J l)).setCell ⟨a,6,N⟩ x).setCell ⟨a,7,N⟩ (.bool o.isSome)).setCell ⟨a,1,N⟩ (I .u8 2)).setCell ⟨a,2,N⟩ (.slice N 0 0)).heap[d]?=some (Zz K ⟨#[]⟩ (.map N) .nilIface)/\KpM [a,d] y.heap.size y (((((((f.setCell ⟨a,3,N⟩ (I J 0)).setCell ⟨a,4,N⟩ (I J 0)).setCell ⟨a,5,N⟩ (I J l)).setCell ⟨a,6,N⟩ x).setCell ⟨a,7,N⟩ (.bool o.isSome)).setCell ⟨a,1,N⟩ (I .u8 2)).setCell ⟨a,2,N⟩ (.slice N 0 0))):=z6 (λf h1 h2 h3=>zeK h1 h2 h3 a8 l x o.isSome);have a6:Hid (∀n,rdU d 2 n o=ZE d 2 n l x o.isSome):=z6 (λn=>zhx O d 2 n);have a5:Hid (∀W:World,Calls P 56 #[.agg #[I J 0,I J 0,I J l,x]] W λe i=>e=.returned (I J (zN o))/\Below W.heap.size W i):=z6 (λW=>by have:=zj5 o ab W;rw[O]at this;exact this);clear O;rcases aa with rfl|⟨tt,vv,rfl⟩
 ·go_wp2_with fail;go_region_with(go_at_call 60;refine E.out.mono ?_;rintro _ f⟨rfl,F,a0,u⟩;have m:=L.out f u;have y1:=z8 m;have y2:=zi m;have y3:=za m;have D:=z6 m;have A:=z6 F;have z:=z6 u;clear F a0 u m E);all_goals
   go_wp2_with fail;have b:=z6 (M.out f D.out A.out z.out);clear y1 y2 y3 D A z L z0 H a4 a3 M;generalize (((((((f.setCell ⟨a,3,N⟩ (I J 0)).setCell ⟨a,4,N⟩ (I J 0)).setCell ⟨a,5,N⟩ (I J l)).setCell ⟨a,6,N⟩ .nilIface).setCell ⟨a,7,N⟩ (.bool o.isSome)).setCell ⟨a,1,N⟩ (I .u8 2)).setCell ⟨a,2,N⟩ (.slice N 0 0))=R at *;have k:=za b.out.1;have U:=z8 b.out.1 3;have V:=z8 b.out.1 4;have X:=z8 b.out.1 5;have Y:=z8 b.out.1 6;have Z:=z8 b.out.1 7;simp at U V X Y Z;go_region_held (λi=>i.cell? ⟨a,3,N⟩=some (I J 0)/\i.cell? ⟨a,4,N⟩=some (I J 0)/\i.cell? ⟨a,5,N⟩=some (I J l)/\i.cell? ⟨a,6,N⟩=some .nilIface/\i.cell? ⟨a,7,N⟩=some (.bool o.isSome)) (go_keep) (first|(go_at_call 56;refine(a5.out _).mono ?_;rintro _ w3⟨rfl,j⟩;have v3:=j.cell (p:=⟨a,3,N⟩) k;have v4:=j.cell (p:=⟨a,4,N⟩) k;have v5:=j.cell (p:=⟨a,5,N⟩) k;have v6:=j.cell (p:=⟨a,6,N⟩) k;have v7:=j.cell (p:=⟨a,7,N⟩) k;have t:=z6 j;clear j));all_goals go_wp2_with fail
   all_goals go_ret3
   all_goals exact⟨rfl,by rw[a6.out,t.out.block a k];exact b.out.1,by rw[t.out.block d (zd b.out.2.1)];exact b.out.2.1,b.out.2.2.low ((Below.refl _ R).drew.trans (t.out.mono b.out.2.2.size))⟩
 ·go_wp2_with fail;go_region_with(go_at_call 60;refine E.out.mono ?_;rintro _ f⟨rfl,F,a0,u⟩;have m:=L.out f u;have y1:=z8 m;have y2:=zi m;have y3:=za m;have D:=z6 m;have A:=z6 F;have z:=z6 u;clear F a0 u m E);all_goals
   go_wp2_with fail;have b:=z6 (M.out f D.out A.out z.out);clear y1 y2 y3 D A z L z0 H a4 a3 M;generalize (((((((f.setCell ⟨a,3,N⟩ (I J 0)).setCell ⟨a,4,N⟩ (I J 0)).setCell ⟨a,5,N⟩ (I J l)).setCell ⟨a,6,N⟩ (.iface tt vv)).setCell ⟨a,7,N⟩ (.bool o.isSome)).setCell ⟨a,1,N⟩ (I .u8 2)).setCell ⟨a,2,N⟩ (.slice N 0 0))=R at *;have k:=za b.out.1;have U:=z8 b.out.1 3;have V:=z8 b.out.1 4;have X:=z8 b.out.1 5;have Y:=z8 b.out.1 6;have Z:=z8 b.out.1 7;simp at U V X Y Z;go_region_held (λi=>i.cell? ⟨a,3,N⟩=some (I J 0)/\i.cell? ⟨a,4,N⟩=some (I J 0)/\i.cell? ⟨a,5,N⟩=some (I J l)/\i.cell? ⟨a,6,N⟩=some (.iface tt vv)/\i.cell? ⟨a,7,N⟩=some (.bool o.isSome)) (go_keep) (first|(go_at_call 56;refine(a5.out _).mono ?_;rintro _ w3⟨rfl,j⟩;have v3:=j.cell (p:=⟨a,3,N⟩) k;have v4:=j.cell (p:=⟨a,4,N⟩) k;have v5:=j.cell (p:=⟨a,5,N⟩) k;have v6:=j.cell (p:=⟨a,6,N⟩) k;have v7:=j.cell (p:=⟨a,7,N⟩) k;have t:=z6 j;clear j));all_goals go_wp2_with fail
   all_goals go_ret3
   all_goals exact⟨rfl,by rw[a6.out,t.out.block a k];exact b.out.1,by rw[t.out.block d (zd b.out.2.1)];exact b.out.2.1,b.out.2.2.low ((Below.refl _ R).drew.trans (t.out.mono b.out.2.2.size))⟩
end
section
open Go.RowKit Go.Lib
abbrev pbO(x c:Nat):Obj:=.cells #[z9 x,z9 c] 167 (0,0)
abbrev opO(a r:Int)(t s:ByteArray):Obj:=.cells #[I J a,I J r,.string t,.string s] 100 (0,0)
def Nxt(B:Nat)(F:Nat->Prop)(w b:World)(p:Pr):Prop:=GrW w b p.mut/\∃a,Qe a=Qe p/\Z2 B (λx=>F x\/w.heap.size<=x) b a
section
variable {B : Nat} {F : Nat → Prop} {w : World} {p : Pr}
theorem Z2.still(h:Z2 B F w p):Nxt B F w w p:=⟨GrW.refl _ _,p,rfl,h.keep (Nat.le_refl _) (λ_ _ a=>.inl a) (λ_ _ _=>rfl)⟩
theorem VH{w:World}{a b:Nat}{d e:Array Value}{T U:TypeId}(f:w.heap[a]?=S (.cells d T (0,0)))(c:w.heap[b]?=S (.cells e U (0,0)))(h:T≠U):a≠b:=by rintro rfl;rw[f]at c;simp at c;exact h c.2
theorem Z2.xm(h:Z2 B F w p):p.xb≠p.mb:=by obtain⟨_,_,_,_,_,e⟩:=h.xcells;exact VH e h.blk (by decide)
theorem Z2.xc(h:Z2 B F w p):p.xb≠p.cb:=by obtain⟨_,_,_,_,_,e⟩:=h.xcells;exact VH e h.cbk (by decide)
theorem Z2.mc(h:Z2 B F w p):p.mb≠p.cb:=VH h.blk h.cbk (by decide)
theorem Z2.open(h:Z2 B F w p)(hd:¬p.dn=true):w.heap[p.xb]?=S (ZE p.mb 1 p.iv 0 .nilIface false)/\w.ownsRow B 5 1 p.iv p.s.size (strCells p.s):=by have:=h.rd;unfold Pr.rd at this;rw[if_neg hd]at this;exact this
theorem Z2.shut(h:Z2 B F w p)(hd:p.dn=true):p.iv=.slice N 0 0/\∃o,(∀h:0<p.g.length,Ev p.g p.s.data.toList (.C p.g[0].choice) 0 o)/\w.heap[p.xb]?=S (rdU p.mb 2 (.slice N 0 0) o):=by have:=h.rd;unfold Pr.rd at this;rw[if_pos hd]at this;exact this
theorem Z2.shutC(h:Z2 B F w p)(hd:p.dn=true):∃c b ok,w.heap[p.xb]?=S (ZE p.mb 2 (.slice N 0 0) c b ok):=by obtain⟨_,o,_,a⟩:=h.shut hd;obtain⟨c,b,e⟩:=zcc p.mb 2 (.slice N 0 0) o;rw[e]at a;exact⟨_,_,_,a⟩
theorem ziY(s q:ByteArray):strCells (s++q)=strCells s++strCells q:=by simp[strCells,ByteArray.data_append]
def YR(p:Pr)(q:ByteArray):Int:=if p.dn=true then 10 else if 200<p.s.size+q.size then 9 else 0
theorem zeQ(h:Z2 B F w p)(A:B<=w.heap.size)(q:ByteArray)(l:q.size<=281474976710656):Calls P 33 #[z9 p.xb,.string q] w λe k=>e=.returned (I J (YR p q))/\GrW w k p.mut/\Calls P 114 #[z9 p.cb,.string q] k λm j=>m=.returned (I J (YR p q))/\Nxt B F w j p:=by
 by_cases hd:p.dn=true;·obtain⟨c,Z,ok,d⟩:=h.shutC hd;refine(zc5 (s:=⟨#[]⟩) (B:=B) d (by decide) l (World.ownsRow_nil _ _ _ _) A (by simp[Value.ownBlock])).mono ?_;intro e k f;unfold Kq at f;rw[if_neg (by decide)]at f;obtain⟨rfl,rfl⟩:=f;refine⟨by rw[YR,if_pos hd],GrW.refl _ _,(zam h.cbk h.ssz l).mono ?_⟩;intro m j a;unfold Kx at a;rw[if_pos hd]at a;obtain⟨rfl,rfl⟩:=a;exact⟨by rw[YR,if_pos hd],h.still⟩
 ·obtain⟨d,K⟩:=h.open hd;have u:∀b z T,w.heap[b]?=S (.cells z T (0,0))->T≠5->p.iv.ownBlock≠S b:=λb z T R O e=>by obtain⟨M,r⟩:=Zr K e;exact VH R r O rfl
  refine(zc5 d h.ssz l K A (u _ _ _ d (by decide))).mono ?_;intro e k f;unfold Kq at f;rw[if_pos rfl]at f;by_cases i:200<p.s.size+q.size;·rw[if_pos i]at f;obtain⟨rfl,rfl⟩:=f;refine⟨by rw[YR,if_neg hd,if_pos i],GrW.refl _ _,(zam h.cbk h.ssz l).mono ?_⟩;intro m j a;unfold Kx at a;rw[if_neg hd,if_pos i]at a;obtain⟨rfl,rfl⟩:=a;exact⟨by rw[YR,if_neg hd,if_pos i],h.still⟩
  ·rw[if_neg i]at f;obtain⟨rfl,y,L,v,t,V⟩:=f;have G:k.heap[p.cb]?=S (QK p.t p.s p.dn):=by
    rw[t.block _ (zd h.cbk) (by
     rintro(e|e);·exact h.xc e.symm
     ·exact u _ _ _ h.cbk (by decide) e)]
    exact h.cbk
   have H:k.heap[p.mb]?=S (Zz p.vr ⟨#[]⟩ (.map N) .nilIface):=by
    rw[t.block _ (zd h.blk) (by
     rintro(e|e);·exact h.xm e.symm
     ·exact u _ _ _ h.blk (by decide) e)]
    exact h.blk
   have E:GrW w k p.mut:=t.imp (by
    rintro x(e|e);·exact .inl e
    ·exact .inr (.inr (.inr e)))
   refine⟨by rw[YR,if_neg hd,if_neg i],E,(zam G h.ssz l).mono ?_⟩;intro m j a;unfold Kx at a;rw[if_neg hd,if_neg i]at a;obtain⟨rfl,U,o⟩:=a;have D:GrW w j p.mut:=E.trans (o.grw (by intro x d;simp only[List.mem_singleton]at d;exact .inr (.inr (.inl d))))
   have W:j.heap[p.mb]?=S (Zz p.vr ⟨#[]⟩ (.map N) .nilIface):=by rw[o.block _ (zd H) (by simp only[List.mem_singleton];exact h.mc)];exact H
   have Y:j.heap[p.xb]?=S (ZE p.mb 1 y 0 .nilIface false):=by rw[o.block _ (zd L) (by simp only[List.mem_singleton];exact h.xc)];exact L
   have X:j.ownsRow B 5 1 y (p.s.size+q.size) (strCells p.s++strCells q):=Z6 v (λg n=>o.block g (v.lt g n).2 (by simp only[List.mem_singleton];rintro rfl;obtain⟨M,r⟩:=Zr v n;exact VH G r (by decide) rfl))
   refine⟨by rw[YR,if_neg hd,if_neg i],D,{p with s:=p.s++q,dn:=false,iv:=y},rfl,h.upd D (by rw[ByteArray.size_append];omega) W U ?_ ?_⟩;·unfold Pr.rd;rw[if_neg (by simp)];refine⟨Y,?_⟩;simp only[ByteArray.size_append,ziY];exact X
   ·intro x d;rcases V with e|⟨g,e,n⟩;·exact .inl (by rw[<-e];exact d)
    ·rw[e]at d;cases d;exact .inr n
theorem zeJ(h:Z2 B F w p):∃(a:Int) (b:Bool) (c:Int),Calls P 35 #[z9 p.xb] w λe g=>e=.returned (.tuple #[I J a,.bool b,I J c])/\GrW w g p.mut/\Calls P 115 #[z9 p.cb] g λk i=>k=.returned (.tuple #[I J a,.bool b,I J c])/\Nxt B F w i p:=by
 obtain⟨r,u⟩:=h.all.pread;have v:p.s.size<=maxLen:=by have:=h.ssz;unfold maxLen;omega
 by_cases hd:p.dn=true;·obtain⟨c,Z,ok,d⟩:=h.shutC hd;refine⟨0,false,10,(zh7 d (by decide)).mono ?_⟩;rintro e g⟨rfl,rfl⟩;refine⟨rfl,GrW.refl _ _,(zcj h.cbk h.tsz v r u).mono ?_⟩;intro k i f;unfold Kw at f;rw[if_pos hd]at f;obtain⟨rfl,rfl⟩:=f;exact⟨rfl,h.still⟩
 ·obtain⟨d,V⟩:=h.open hd;have O:=h.all.ends.pos;obtain⟨o,j⟩:=qh (inp:=p.s.data.toList) h.all.ends;have R:zN o<=1000000:=by
   cases o with
   |none=>exact Nat.zero_le _|some x=>have X:=(j.le (Nat.zero_le _) x.1 x.2 rfl).2;have f:p.s.data.toList.length=p.s.size:=rfl;have Y:=h.ssz;simp only[zN];omega
  refine⟨zN o,o.isSome,0,(zh8 d h.ssz V h.ted h.blk h.dnr O h.all.rules20 o j R h.xm).mono ?_⟩;rintro e g⟨rfl,A,t,q⟩;have L:g.heap[p.cb]?=S (QK p.t p.s p.dn):=by
   rw[q.block _ (zd h.cbk) (by
    simp only[List.mem_cons,List.not_mem_nil,or_false];rintro(e|e);·exact h.xc e.symm
    ·exact h.mc e.symm)]
   exact h.cbk
  have n:GrW w g p.mut:=q.grw (by
   intro x d;simp only[List.mem_cons,List.not_mem_nil,or_false]at d;rcases d with e|e;·exact .inl e
   ·exact .inr (.inl e))
  refine⟨rfl,n,(zcj L h.tsz v r u).mono ?_⟩;intro k i f;unfold Kw at f;rw[if_neg hd]at f;obtain⟨x,y,z,rfl,D,M,l⟩:=f;have E:Ys p.t.data.toList p.s (I J (zN o)) (.bool o.isSome) (I J 0):=by refine⟨.ok (p.g,p.E),h.all,?_⟩;simp only[];rw[if_neg (by have:=h.ssz;omega)];refine⟨o,λ_=>j,?_⟩;cases o<;>simp[fin,zN]
  obtain⟨G,H,K⟩:=E.det D;subst G;subst H;subst K;have m:GrW w i p.mut:=n.trans (l.grw (by intro x d;simp only[List.mem_singleton]at d;exact .inr (.inr (.inl d))))
  have U:i.heap[p.mb]?=S (Zz p.vr ⟨#[]⟩ (.map N) .nilIface):=by rw[l.block _ (zd t) (by simp only[List.mem_singleton];exact h.mc)];exact t
  have W:i.heap[p.xb]?=S (rdU p.mb 2 (.slice N 0 0) o):=by rw[l.block _ (zd A) (by simp only[List.mem_singleton];exact h.xc)];exact A
  refine⟨rfl,m,{p with s:=p.s,dn:=true,iv:=.slice N 0 0},rfl,h.upd m h.ssz U M ?_ ?_⟩;·unfold Pr.rd;rw[if_pos rfl];exact⟨rfl,o,λ_=>j,W⟩
  ·intro x d;simp[Value.ownBlock]at d
theorem zgS(h:Z2 B F w p):∃(L:List Nod) (n:Int),L.length<=5000/\Calls P 34 #[z9 p.xb] w λe b=>Below w.heap.size w b/\∃a c,e=.returned (.tuple #[.slice a L.length c,I J n])/\Y0 b w.heap.size (.slice a L.length c) L/\Calls P 116 #[z9 p.cb] b λk j=>Below b.heap.size b j/\∃f g,k=.returned (.tuple #[.slice f L.length g,I J n])/\Y0 j b.heap.size (.slice f L.length g) L:=by
 obtain⟨r,z⟩:=h.all.pread;have A:p.s.size<=maxLen:=by have:=h.ssz;unfold maxLen;omega
 by_cases hd:p.dn=true
 ·obtain⟨_,o,i,m⟩:=h.shut hd;have y:=h.all.ends.pos;have H:p.s.data.toList.length<=200:=h.ssz;have G:¬200<p.s.size:=by have:=h.ssz;omega
  have K:∀x,o=S x->wfN x.2/\szN x.2<=900000:=by rintro x rfl;have h1:=qj h.all.ends h.all.rules20 H i;exact⟨(i y).wf trivial x.1 x.2 rfl,by omega⟩
  cases o with
  |none=>
   refine⟨[],0,by simp,(zc8 m K).mono ?_⟩;rintro e b⟨rfl,rfl⟩;refine⟨Below.refl _ _,N,0,rfl,World.ownsRow_nil _ _ _ _,(zao h.cbk h.tsz A r z).mono ?_⟩;intro k j d;unfold V9 at d;rw[if_pos hd]at d;obtain⟨u,v,c,rfl,s⟩:=d;have R:Yw p.t.data.toList p.s b.heap.size b (.slice N 0 0) (I J 0):=by refine⟨.ok (p.g,p.E),h.all,?_⟩;simp only[];rw[if_neg G];exact⟨N,i,by first|rfl|trivial,by first|rfl|trivial⟩
   obtain⟨L,n,hL,W,X,t,l⟩:=R.both s;cases W;subst X;obtain⟨_,_,E⟩:=zl t;have U:L=[]:=by simp at E;exact List.length_eq_zero_iff.1 E.2.1.symm
   subst U;obtain⟨f,g,rfl⟩:=zl l;exact⟨u,f,g,rfl,l⟩
  |some x=>
   refine⟨K0 x,0,?_,(zc8 m K).mono ?_⟩;·have a1:=qj h.all.ends h.all.rules20 H i;simp only[K0,List.length_cons,YS];omega
   rintro e b⟨a,c,rfl,t,D⟩;have Y:b.heap[p.cb]?=S (QK p.t p.s p.dn):=by rw[D.block _ (zd h.cbk)];exact h.cbk
   refine⟨D,a,c,rfl,t,(zao Y h.tsz A r z).mono ?_⟩;intro k j d;unfold V9 at d;rw[if_pos hd]at d;obtain⟨u,v,g,rfl,s⟩:=d;obtain⟨a3,V,q⟩:=s;have:=V.det h.all;subst this;simp only[]at q;rw[if_neg G]at q;obtain⟨o2,Z,rfl,O⟩:=q;have:=(Z y).det _ (i y);subst this;obtain⟨f,M,rfl,l⟩:=O;exact⟨u,f,M,rfl,l⟩
 ·obtain⟨m,a0⟩:=h.open hd;refine⟨[],11,by simp,(zhl m (by decide)).mono ?_⟩;rintro e b⟨rfl,rfl⟩;refine⟨Below.refl _ _,N,0,rfl,World.ownsRow_nil _ _ _ _,(zao h.cbk h.tsz A r z).mono ?_⟩;intro k j d;unfold V9 at d;rw[if_neg hd]at d;obtain⟨rfl,rfl⟩:=d;exact⟨Below.refl _ _,N,0,rfl,World.ownsRow_nil _ _ _ _⟩
def Ky(p:Pr):Int:=if p.dn=true then 0 else 11
theorem zdL(h:Z2 B F w p):Calls P 36 #[z9 p.xb] w λe d=>e=.returned (I J (Ky p))/\GrW w d p.mut/\Calls P 117 #[z9 p.cb] d λj f=>j=.returned (I J (Ky p))/\Nxt B F w f p:=by
 by_cases hd:p.dn=true
 ·obtain⟨c,y,ok,a⟩:=h.shutC hd;refine(zc3 a).mono ?_;rintro e d⟨i,g⟩;rw[if_pos rfl]at g;obtain⟨rfl,o⟩:=g;have q:d.heap[p.cb]?=S (QK p.t p.s p.dn):=by rw[i.block _ (zd h.cbk) (by simp only[List.mem_singleton];exactλe=>h.xc e.symm)];exact h.cbk
  have n:d.heap[p.mb]?=S (Zz p.vr ⟨#[]⟩ (.map N) .nilIface):=by rw[i.block _ (zd h.blk) (by simp only[List.mem_singleton];exactλe=>h.xm e.symm)];exact h.blk
  have m:GrW w d p.mut:=i.grw (by intro x a;simp only[List.mem_singleton]at a;exact .inl a)
  refine⟨by rw[Ky,if_pos hd],m,(zc9 q).mono ?_⟩;intro j f b;unfold qA at b;rw[if_pos hd]at b;obtain⟨rfl,r,k⟩:=b;have l:GrW w f p.mut:=m.trans (k.grw (by intro x a;simp only[List.mem_singleton]at a;exact .inr (.inr (.inl a))))
  have t:f.heap[p.mb]?=S (Zz p.vr ⟨#[]⟩ (.map N) .nilIface):=by rw[k.block _ (zd n) (by simp only[List.mem_singleton];exact h.mc)];exact n
  have u:f.heap[p.xb]?=S (ZE p.mb 1 (.slice N 0 0) 0 .nilIface false):=by rw[k.block _ (zd o) (by simp only[List.mem_singleton];exact h.xc)];exact o
  refine⟨by rw[Ky,if_pos hd],l,{p with s:=⟨#[]⟩,dn:=false,iv:=.slice N 0 0},rfl,h.upd l (by decide) t r ?_ ?_⟩;·unfold Pr.rd;rw[if_neg (by simp)];exact⟨u,World.ownsRow_nil _ _ _ _⟩
  ·intro x a;simp[Value.ownBlock]at a
 ·obtain⟨a,v⟩:=h.open hd;refine(zc3 a).mono ?_;rintro e d⟨i,g⟩;rw[if_neg (by decide)]at g;obtain⟨rfl,rfl⟩:=g;refine⟨by rw[Ky,if_neg hd],GrW.refl _ _,(zc9 h.cbk).mono ?_⟩;intro j f b;unfold qA at b;rw[if_neg hd]at b;obtain⟨rfl,rfl⟩:=b;exact⟨by rw[Ky,if_neg hd],h.still⟩
theorem Z2.new{t:ByteArray}{w b m:World}{g:List ze}{E:List Bool}{i l j:Nat}{n:List Nd}{o:List (Nat×Nat×Nat)}{r:List Nat}{s:Value}{S:Nat->Prop}(G:t.size<=maxLen)(v:Zo t.data.toList (.ok (g,E)))(a:qx w.heap.size g w b l n o r s S)(f:b.heap[i]?=some (ZE l 1 (.slice N 0 0) 0 .nilIface false))(A:w.heap.size<=i)(y:¬S i)(d:Below b.heap.size b m)(k:Below w.heap.size w b)(z:m.heap[j]?=some (QK t ⟨#[]⟩ false))(q:b.heap.size<=j)(J:B<=w.heap.size):Z2 B (λx=>w.heap.size<=x) m ⟨i,j,l,n,o,r,s,S,t,g,E,⟨#[]⟩,false,.slice N 0 0⟩:=by
 refine⟨G,v,a.ted.below d,by rw[d.block _ (zd a.blk)];exact a.blk,a.dn,by show(0:Nat)<=200;omega,z,?_,?_,?_⟩;·unfold Pr.rd;rw[if_neg (by simp)];exact⟨by rw[d.block _ (zd f)];exact f,World.ownsRow_nil _ _ _ _⟩
 ·have H:=k.size;rintro x(rfl|rfl|rfl|e);·exact⟨A,y⟩
  ·exact⟨a.mge,a.ted.nm⟩
  ·exact⟨by first|omega|(show w.heap.size<=_;exact Nat.le_trans H q),λh=>Nat.lt_irrefl _ (Nat.lt_of_lt_of_le (a.ted.lt _ h) q)⟩
  ·simp[Value.ownBlock]at e
 ·intro x f;rcases a.gr x f with c|⟨u,c⟩;·exact .inl c
  ·have D:=zd c;refine .inr ⟨u,?_⟩;rw[d.block x (by have:=k.size;omega),k.block x D];exact c
end
end
end Go.Proofs.YtiganlkabilblaaGreatDoor
