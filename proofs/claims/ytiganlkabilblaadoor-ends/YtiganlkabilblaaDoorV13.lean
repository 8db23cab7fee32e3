import Derived.Test.YtiganlkabilblaaDoorV12
import Derived.Test.YtiganlkabilblaaDoorV10
import Derived.Deep.RegionHeldLaw
import Derived.Deep.RegionLaw
import Derived.Deep.DrawnRows
import Derived.Deep.AppendLies
import Derived.Deep.CutRange
import Derived.Deep.RegionHeld
import Derived.Test.YtiganlkabilblaaDoorRows
import Derived.WalkKit
import Derived.ProofKit
import Derived.OpenShut
import Derived.ShutString
import Derived.ChangeOld
import Derived.Below
import Derived.ChangeSame
import Derived.ChangeVars
import Derived.JoinedOf
import Derived.RowKit
import Derived.RowKitTokens
import Derived.LaidLaws
import Derived.LaidHandle
import Derived.Stop.Joined
set_option linter.all false
set_option maxHeartbeats 64000000
set_option maxRecDepth 100000
namespace Go.Proofs.YtiganlkabilblaaDoor
open Go.RowKit
def zkl (t:List UInt8) (e:Bool) (b:List UInt8) (t':List UInt8) (e':Bool):Prop:=
 (∃ k:UInt8,(k=63∨k=42∨k=43)∧t'=brk b t++[k]∧e'=(k != 43)∧(e=true→k=63))∨(∃ k:UInt8,(k=38∨k=33)∧t'=k::brk b t∧e'=true)
def zkP (w:World) (t:List UInt8) (e:Bool) (d:Nat) (b:List UInt8) (en:Ending) (w':World):Prop:=
 ∃ t' e',en = .returned (mdV t' e' (d+1))∧zkl t e b t' e'∧Below w.heap.size w w'
theorem zl8 (t:List UInt8) (e:Bool) (d:Nat) (sign style:Int) (w:World) (hg:i64 sign) (hs:i64 style) (ht:t.length≤100000) (hd:d≤1000) :
  Calls Tryd.prog 9 #[mdV t e d,.int .i64 sign,.int .i64 style] w fun e' w'=>zkP w t e d (z5 style) e' w':=by
 have h1:=fun w=>zkc t e d style w hs ht hd
 have hp:=fun w=>zk7 sign 5 w hg (by decide) (by decide)
 have h5:=zh9 sign (n:=5) (by decide)
 have l1:=zjT (ql style)
 have hL:=zjN (z5 style) t
 have z1:(brk (z5 style) t).length≤200000:=by omega
 obtain⟨x1,hx⟩:∃ x,x=brk (z5 style) t:=⟨_,rfl⟩
 rw[← hx] at h1 z1
 have HX:Hid (x1=brk (z5 style) t):=hx
 have y1:=zjU x1
 clear l1 hL hs hg hx
 go_enter Tryd.func9,Tryd.ntmps9
 go_wp2_with fail
 refine (h1 _).mono ?_
 rintro _ w1 ⟨rfl,hb1⟩
 have hz:=hb1.size
 simp at hz
 have A0:w1.heap[w.heap.size]? = some (mdO t e d):=by
  rw[hb1.block _ (by simp;omega),zm _ _ (by simp)];exact zk _ _
 have A1:w1.heap[w.heap.size+1]? = some (mdO [] false 0):=by
  rw[hb1.block _ (by simp)];exact qb _ _ _ (by simp)
 have HB1:Hid (Below w.heap.size w w1):=((zc w _).alloc (by simp) _).trans (hb1.mono (by simp;omega))
 have q0:=z8 A0
 have q1:=z8 A1
 have g1:=zi A1
 have n0:w.heap.size<w1.heap.size:=by omega
 have n1:w.heap.size+1<w1.heap.size:=by omega
 have hk:YY sign 5=0∨YY sign 5=1∨YY sign 5=2∨YY sign 5=3∨YY sign 5=4:=by omega
 clear hb1 A0 A1 hz h1 h5
 rcases hk with hk | hk | hk | hk | hk
 ·rw[hk] at hp
  clear hk
  cases e with
  | true=>
   go_wp2_with (first | (go_at_call 6;refine (hp _).mono ?_;rintro _ _ ⟨rfl,rfl⟩))
   refine bodyPost_ret (v:=mdV (x1++[63]) true (d+1)) (by simp[results,Tryd.results9,go_sem,zf,q0,q1,n0,n1];done) rfl ⟨x1++[63],true,rfl,.inl ⟨63,.inl rfl,by rw[HX.out],rfl,fun _=>rfl⟩,K1 HB1.out (by omega) (by omega) _ _ _ _⟩
  | false=>
   go_wp2_with (first | (go_at_call 6;refine (hp _).mono ?_;rintro _ _ ⟨rfl,rfl⟩))
   refine bodyPost_ret (v:=mdV (x1++[63]) true (d+1)) (by simp[results,Tryd.results9,go_sem,zf,q0,q1,n0,n1];done) rfl ⟨x1++[63],true,rfl,.inl ⟨63,.inl rfl,by rw[HX.out],rfl,fun _=>rfl⟩,K1 HB1.out (by omega) (by omega) _ _ _ _⟩
 ·rw[hk] at hp
  clear hk
  cases e with
  | true=>
   go_wp2_with (first | (go_at_call 6;refine (hp _).mono ?_;rintro _ _ ⟨rfl,rfl⟩))
   refine bodyPost_ret (v:=mdV (x1++[63]) true (d+1)) (by simp[results,Tryd.results9,go_sem,zf,q0,q1,n0,n1];done) rfl ⟨x1++[63],true,rfl,.inl ⟨63,.inl rfl,by rw[HX.out],rfl,fun _=>rfl⟩,K1 HB1.out (by omega) (by omega) _ _ _ _⟩
  | false=>
   go_wp2_with (first | (go_at_call 6;refine (hp _).mono ?_;rintro _ _ ⟨rfl,rfl⟩))
   refine bodyPost_ret (v:=mdV (x1++[42]) true (d+1)) (by simp[results,Tryd.results9,go_sem,zf,q0,q1,n0,n1];done) rfl ⟨x1++[42],true,rfl,.inl ⟨42,.inr (.inl rfl),by rw[HX.out],rfl,fun h=>by cases h⟩,K1 HB1.out (by omega) (by omega) _ _ _ _⟩
 ·rw[hk] at hp
  clear hk
  cases e with
  | true=>
   go_wp2_with (first | (go_at_call 6;refine (hp _).mono ?_;rintro _ _ ⟨rfl,rfl⟩))
   refine bodyPost_ret (v:=mdV (x1++[63]) true (d+1)) (by simp[results,Tryd.results9,go_sem,zf,q0,q1,n0,n1];done) rfl ⟨x1++[63],true,rfl,.inl ⟨63,.inl rfl,by rw[HX.out],rfl,fun _=>rfl⟩,K1 HB1.out (by omega) (by omega) _ _ _ _⟩
  | false=>
   go_wp2_with (first | (go_at_call 6;refine (hp _).mono ?_;rintro _ _ ⟨rfl,rfl⟩))
   refine bodyPost_ret (v:=mdV (x1++[43]) false (d+1)) (by simp[results,Tryd.results9,go_sem,zf,q0,q1,n0,n1];done) rfl ⟨x1++[43],false,rfl,.inl ⟨43,.inr (.inr rfl),by rw[HX.out],rfl,fun h=>by cases h⟩,K1 HB1.out (by omega) (by omega) _ _ _ _⟩
 ·rw[hk] at hp
  clear hk
  cases e with
  | true=>
   go_wp2_with (first | (go_at_call 6;refine (hp _).mono ?_;rintro _ _ ⟨rfl,rfl⟩))
   refine bodyPost_ret (v:=mdV (38::x1) true (d+1)) (by simp[results,Tryd.results9,go_sem,zf,q0,q1,n0,n1];done) rfl ⟨38::x1,true,rfl,.inr ⟨38,.inl rfl,by rw[HX.out],rfl⟩,K1 HB1.out (by omega) (by omega) _ _ _ _⟩
  | false=>
   go_wp2_with (first | (go_at_call 6;refine (hp _).mono ?_;rintro _ _ ⟨rfl,rfl⟩))
   refine bodyPost_ret (v:=mdV (38::x1) true (d+1)) (by simp[results,Tryd.results9,go_sem,zf,q0,q1,n0,n1];done) rfl ⟨38::x1,true,rfl,.inr ⟨38,.inl rfl,by rw[HX.out],rfl⟩,K1 HB1.out (by omega) (by omega) _ _ _ _⟩
 ·rw[hk] at hp
  clear hk
  cases e with
  | true=>
   go_wp2_with (first | (go_at_call 6;refine (hp _).mono ?_;rintro _ _ ⟨rfl,rfl⟩))
   refine bodyPost_ret (v:=mdV (33::x1) true (d+1)) (by simp[results,Tryd.results9,go_sem,zf,q0,q1,n0,n1];done) rfl ⟨33::x1,true,rfl,.inr ⟨33,.inr rfl,by rw[HX.out],rfl⟩,K1 HB1.out (by omega) (by omega) _ _ _ _⟩
  | false=>
   go_wp2_with (first | (go_at_call 6;refine (hp _).mono ?_;rintro _ _ ⟨rfl,rfl⟩))
   refine bodyPost_ret (v:=mdV (33::x1) true (d+1)) (by simp[results,Tryd.results9,go_sem,zf,q0,q1,n0,n1];done) rfl ⟨33::x1,true,rfl,.inr ⟨33,.inr rfl,by rw[HX.out],rfl⟩,K1 HB1.out (by omega) (by omega) _ _ _ _⟩
end Go.Proofs.YtiganlkabilblaaDoor
namespace Go.Proofs.YtiganlkabilblaaDoor
open Go.RowKit
attribute [local go_sem ↓] Go.wp_at_zero Go.wp_at_succ
theorem Tryd.infoMade:(Tryd.prog.info? 24).map (fun i=>(i.zero,i.size,i.bytes))=some (some (.agg #[.string ⟨#[]⟩,.bool false,.int .i64 0]),3,32):=by kernel_rfl
abbrev Md:=List UInt8 × Bool × Nat
def mdC (m:Md):List Value:=[.string (bs m.1),.bool m.2.1,.int .i64 m.2.2]
theorem zjO (ms:List Md):(ms.flatMap mdC).length=ms.length * 3:=by
 induction ms with
 | nil=>rfl
 | cons x xs ih=>simp[mdC,ih] at *;omega
def tot (ms:List Md):Nat:=(ms.map (·.1.length)).sum
theorem zjQ (a b:List Md):tot (a++b)=tot a+tot b:=by simp[tot]
theorem zjR (m:Md):tot [m]=m.1.length:=by simp[tot]
def zjX (w:World) (a:Option Addr) (len:Nat):Prop:=∀ k,k<len→∃ x c,a=some x∧(x.add k).block<w.heap.size∧w.cell? (x.add k)=some (.int .i64 c)∧i64 c
structure zL (w:World) (k:Nat) (ms:List Md) (v:Value) (wr:World):Prop where
 own:wr.ownsRow (w.heap.size+1) 24 3 v ms.length (ms.flatMap mdC)
 below:Below w.heap.size w wr
 res:wr.heap[w.heap.size]? = some (mdO [] false 0)
 size:w.heap.size+1≤wr.heap.size
 pos : 0<ms.length
 cnt:ms.length≤k+1
 top:k≤24
 good:∀ m ∈ ms,Gx m.1 m.2.1 m.2.2∧m.2.2≤4
 tot:tot ms≤3+29 * k
theorem zL.last {w:World} {k:Nat} {ms:List Md} {v:Value} {wr:World} (h:zL w k ms v wr) :
  ∃ ini m g cp,ms=ini++[m]∧v = .slice (some ⟨g,0,none⟩) (ini.length+1) cp∧w.heap.size<g∧g<wr.heap.size∧wr.cell? ⟨g,ini.length * 3,none⟩=some (.string (bs m.1))∧wr.cell? ⟨g,ini.length * 3+1,none⟩=some (.bool m.2.1)∧wr.cell? ⟨g,ini.length * 3+2,none⟩=some (.int .i64 m.2.2)∧∀ o,wr.frozen? ⟨g,o,none⟩=false:=by
 have hp:=h.pos
 obtain⟨ini,m,rfl⟩:∃ ini m,ms=ini++[m]:=⟨ms.dropLast,ms.getLast (by intro e;rw[e] at hp;simp at hp),(List.dropLast_concat_getLast _).symm⟩
 have hop:=h.own
 rw[List.length_append,List.length_singleton] at hop
 obtain⟨g,cp,hv,hb,hlt⟩:=hop.form (by omega)
 rw[hv] at hop
 have hg:∀ j,j<3→wr.cell? ⟨g,ini.length * 3+j,none⟩=(mdC m)[j]? := by
  intro j hj
  rw[hop.cellAt _ (by omega),List.flatMap_append,List.getElem?_append_right (by rw[zjO];omega),zjO,show ini.length * 3+j - ini.length * 3=j from by omega]
  simp
 exact⟨ini,m,g,cp,rfl,hv,by omega,hlt,hg 0 (by decide),hg 1 (by decide),hg 2 (by decide),fun o=>hop.frozenAt o⟩
theorem zke {ms:List Md} {m:Md} (h:m ∈ ms):m.1.length≤tot ms:=by
 induction ms with
 | nil=>cases h
 | cons x xs ih=>
  have e:tot (x::xs)=x.1.length+tot xs:=by simp[tot]
  rcases List.mem_cons.1 h with rfl | h
  ·omega
  ·have:=ih h;omega
theorem zL.push {w:World} {k:Nat} {ms:List Md} {v:Value} {wr W w3:World} (h:zL w k ms v wr) (hk:k<24) (hb:Below wr.heap.size wr W) {v':Value} {m:Md} (hown:w3.ownsRow (w.heap.size+1) 24 3 v' (ms.length+1) (ms.flatMap mdC++mdC m)) (hg:W.grownBy w3 v.ownBlock)
  (hm:Gx m.1 m.2.1 m.2.2) (hd:m.2.2≤4) (hl:m.1.length≤29):zL w (k+1) (ms++[m]) v' w3:=by
 have hs:=h.size
 have hbs:=hb.size
 have hgs:=hg.size
 have hc:=h.cnt
 have ht:=h.tot
 refine⟨by simpa using hown,(h.below.trans (hb.mono (by omega))).grown hg (by omega) (fun g e=>by have:=(h.own.lt g e).1;omega),?_,by omega,by simp,by simp;omega,by omega,?_,?_⟩
 ·rw[hg.block _ (by omega) (fun e=>by have:=(h.own.lt _ e.symm).1;omega),hb.block _ (by omega)];exact h.res
 ·intro x hx
  rcases List.mem_append.1 hx with hx | hx
  ·exact h.good x hx
  ·simp at hx;subst hx;exact⟨hm,hd⟩
 ·rw[zjQ,zjR];omega
theorem zL.prev {w:World} {k:Nat} {ini:List Md} {q m:Md} {g cp:Nat} {wr:World} (h:zL w k (ini++[q]++[m]) (.slice (some ⟨g,0,none⟩) (ini.length+1+1) cp) wr) :
  wr.cell? ⟨g,ini.length * 3,none⟩=some (.string (bs q.1))∧wr.cell? ⟨g,ini.length * 3+1,none⟩=some (.bool q.2.1)∧wr.cell? ⟨g,ini.length * 3+2,none⟩=some (.int .i64 q.2.2):=by
 have hop:=h.own
 rw[show (ini++[q]++[m]).length=ini.length+1+1 by simp] at hop
 have hg:∀ j,j<3→wr.cell? ⟨g,ini.length * 3+j,none⟩=(mdC q)[j]? := by
  intro j hj
  rw[hop.cellAt _ (by omega),List.append_assoc,List.flatMap_append,List.getElem?_append_right (by rw[zjO];omega),zjO,show ini.length * 3+j - ini.length * 3=j from by omega,List.flatMap_append,List.getElem?_append_left (by simp[mdC];omega)]
  simp
 exact⟨hg 0 (by decide),hg 1 (by decide),hg 2 (by decide)⟩
theorem zkt (l:List Md):l=[]∨∃ i q,l=i++[q]:=by
 rcases List.eq_nil_or_concat l with h | ⟨i,q,h⟩
 ·exact .inl h
 ·exact .inr ⟨i,q,by simpa using h⟩
theorem zlb (ini:List Md) (m m':Md):((((ini++[m]).flatMap mdC).set (ini.length * 3) (.string (bs m'.1))).set (ini.length * 3+1) (.bool m'.2.1)).set (ini.length * 3+2) (.int .i64 m'.2.2)=(ini++[m']).flatMap mdC:=by
 have e:∀ m:Md,(ini++[m]).flatMap mdC=ini.flatMap mdC++mdC m:=by intro m;simp
 rw[e,e]
 have hl:=zjO ini
 rw[List.set_append_right _ _ (by omega),List.set_append_right _ _ (by omega),List.set_append_right _ _ (by omega),hl]
 simp[mdC]
theorem zL.setLast {w:World} {k:Nat} {ini:List Md} {m:Md} {g cp:Nat} {wr W:World} (h:zL w k (ini++[m]) (.slice (some ⟨g,0,none⟩) (ini.length+1) cp) wr) (hk:k<24) (hb:Below wr.heap.size wr W) {m':Md}
  (hm:Gx m'.1 m'.2.1 m'.2.2) (hd:m'.2.2≤4) (hl:m'.1.length≤m.1.length+29):zL w (k+1) (ini++[m']) (.slice (some ⟨g,0,none⟩) (ini.length+1) cp) (((W.setCell ⟨g,ini.length * 3,none⟩ (.string (bs m'.1))).setCell ⟨g,ini.length * 3+1,none⟩ (.bool m'.2.1)).setCell ⟨g,ini.length * 3+2,none⟩ (.int .i64 m'.2.2)):=by
 have hs:=h.size
 have hbs:=hb.size
 have hc:=h.cnt
 have ht:=h.tot
 have hgl:=(h.own.lt g rfl).1
 have hop:=Zv h.own hb
 rw[List.length_append,List.length_singleton] at hop hc
 have h3:=((((hop.stored (ini.length * 3) (.string (bs m'.1))).1).stored (ini.length * 3+1) (.bool m'.2.1)).1.stored (ini.length * 3+2) (.int .i64 m'.2.2)).1
 rw[zlb] at h3
 refine⟨by simpa using h3,(((h.below.trans (hb.mono (by omega))).setCell (show w.heap.size≤g by omega) _).setCell (show w.heap.size≤g by omega) _).setCell (show w.heap.size≤g by omega) _,?_,by simp;omega,by simp,by simp;omega,by omega,?_,?_⟩
 ·rw[Below.heap_setCell _ _ _ _ (show w.heap.size≠g by omega),Below.heap_setCell _ _ _ _ (show w.heap.size≠g by omega),Below.heap_setCell _ _ _ _ (show w.heap.size≠g by omega),hb.block _ (by omega)];exact h.res
 ·intro x hx
  rcases List.mem_append.1 hx with hx | hx
  ·exact h.good x (by simp[hx])
  ·simp at hx;subst hx;exact⟨hm,hd⟩
 ·rw[zjQ,zjR] at ht ⊢;omega
theorem zkH {t:List UInt8} {e:Bool} {d:Nat} {b t':List UInt8} {e':Bool} (hx:Gx t e d) (hb:b ∈ z4) (h:zkl t e b t' e'):Gx t' e' (d+1)∧t'.length≤t.length+29:=by
 have hb6:=zjT hb
 rcases h with ⟨k,hk,rfl,rfl,hl⟩ | ⟨k,hk,rfl,rfl⟩
 ·exact⟨zkE k hk hb hx hl,by simp[zjN];omega⟩
 ·exact⟨zkC k hk hb hx,by simp[zjN];omega⟩
theorem zly (q m:Md) (ch:Bool) (style:Int) (hs:i64 style) (hq:Gx q.1 q.2.1 q.2.2) (hm:Gx m.1 m.2.1 m.2.2) (hq4:q.2.2<4) (hm4:m.2.2<4) (hql:q.1.length≤1000) (hml:m.1.length≤1000) :
  ∃ (t2:List UInt8) (e2:Bool) (d2:Nat),(∀ w,Calls Tryd.prog 8 #[.agg #[.string (bs q.1),.bool q.2.1,.int .i64 ↑q.2.2],.agg #[.string (bs m.1),.bool m.2.1,.int .i64 ↑m.2.2],.bool ch,.int .i64 style] w fun e w'=>e = .returned (.agg #[.string (bs t2),.bool e2,.int .i64 ↑d2])∧Below w.heap.size w w')∧Gx t2 e2 d2∧d2≤4∧t2.length≤q.1.length+m.1.length+29:=by
 refine⟨_,_,_,fun w=>zlx q.1 q.2.1 q.2.2 m.1 m.2.1 m.2.2 ch style w hs (by omega) (by omega) (by omega) (by omega),?_,by omega,?_⟩
 ·cases ch with
  | true=>exact zkG (ql _) (ql _) hq hm
  | false=>exact zkD (ql _) (ql _) hq hm
 ·have h1:=zjT (ql style)
  have h2:=zjT (ql (style.tdiv 4))
  simp[KT,zjN];omega
theorem zkg {w:World} {b o:Nat} {cs:Array Value} {e:TypeId} {fr:Nat × Nat} (h:w.heap[b]? = some (.cells cs e fr)) (u:Value):(w.setCell ⟨b,o,none⟩ u).heap[b]? = some (.cells (cs.setIfInBounds o u) e fr):=by
 simp[World.setCell,Array.getElem?_modify,h]
structure zk9 (wr wx:World) (b:Nat) (t:List UInt8) (e:Bool) (d:Nat):Prop where
 below:Below wr.heap.size wr wx
 blk:wx.heap[b]? = some (mdO t e d)
theorem zkW {wr w2:World} {O:Obj} {t:List UInt8} {e:Bool} {d:Nat} (h:Below (wr.alloc O).drew.heap.size (wr.alloc O).drew w2):zk9 wr (w2.alloc (.cells #[.string (bs t),.bool e,.int .i64 ↑d] 24)) w2.heap.size t e d:=by
 have hs:wr.heap.size+1≤w2.heap.size:=by have:=h.size;simpa using this
 refine⟨((zc wr O).drew.trans (h.mono ?_)).alloc (by omega) _,zk _ _⟩
 show wr.heap.size≤(wr.alloc O).heap.size
 simp
theorem zkX {wr w2:World} {O:Obj} {t:List UInt8} {e:Bool} {d:Nat} (h:Below ((wr.alloc O).alloc (.cells #[.string ⟨#[]⟩,.bool false,.int .i64 0] 24)).drew.heap.size ((wr.alloc O).alloc (.cells #[.string ⟨#[]⟩,.bool false,.int .i64 0] 24)).drew w2) :
  zk9 wr (((w2.setCell ⟨wr.heap.size+1,0,none⟩ (.string (bs t))).setCell ⟨wr.heap.size+1,1,none⟩ (.bool e)).setCell ⟨wr.heap.size+1,2,none⟩ (.int .i64 ↑d)) (wr.heap.size+1) t e d:=by
 have hb:w2.heap[wr.heap.size+1]? = some (.cells #[.string ⟨#[]⟩,.bool false,.int .i64 0] 24):=by
  rw[h.block _ (by show wr.heap.size+1<((wr.alloc O).alloc _).heap.size;simp)]
  show ((wr.alloc O).alloc _).heap[_]? = _
  exact qb _ _ _ (by simp)
 refine⟨((((((zc wr O).alloc (by simp) _).drew).trans (h.mono ?_)).setCell (Nat.le_succ _) _).setCell (Nat.le_succ _) _).setCell (Nat.le_succ _) _,zkg (zkg (zkg hb _) _) _⟩
 show wr.heap.size≤((wr.alloc O).alloc _).heap.size
 simp;omega
theorem zL.popTwo {w:World} {k:Nat} {ini:List Md} {q m:Md} {g cp:Nat} {wr W:World} (h:zL w k (ini++[q]++[m]) (.slice (some ⟨g,0,none⟩) (ini.length+1+1) cp) wr) (hb:Below wr.heap.size wr W) :
  W.ownsRow (w.heap.size+1) 24 3 (.slice (some ⟨g,0,none⟩) ini.length cp) ini.length (ini.flatMap mdC):=by
 have hop:=Zv h.own hb
 rw[show (ini++[q]++[m]).length=ini.length+1+1 by simp] at hop
 have h1:W.ownsRow (w.heap.size+1) 24 3 (.slice (some ⟨g,0,none⟩) (ini.length+1) cp) (ini.length+1) ((ini++[q]).flatMap mdC):=by
  refine ownsRow_pop (last:=mdC m) (by rw[zjO];simp) ?_
  simpa using hop
 refine ownsRow_pop (last:=mdC q) (by rw[zjO]) ?_
 simpa using h1
theorem zL.pushTwo {w:World} {k:Nat} {ini:List Md} {q m:Md} {g cp:Nat} {wr W w3:World} (h:zL w k (ini++[q]++[m]) (.slice (some ⟨g,0,none⟩) (ini.length+1+1) cp) wr) (hk:k<24) (hb:Below wr.heap.size wr W) {v':Value} {m':Md} (hown:w3.ownsRow (w.heap.size+1) 24 3 v' (ini.length+1) (ini.flatMap mdC++mdC m')) (hg:W.grownBy w3 (some g))
  (hm:Gx m'.1 m'.2.1 m'.2.2) (hd:m'.2.2≤4) (hl:m'.1.length≤q.1.length+m.1.length+29):zL w (k+1) (ini++[m']) v' w3:=by
 have hs:=h.size
 have hbs:=hb.size
 have hgs:=hg.size
 have hc:=h.cnt
 have ht:=h.tot
 have hgl:=(h.own.lt g rfl).1
 simp only[List.length_append,List.length_singleton] at hc
 refine⟨by simpa using hown,(h.below.trans (hb.mono (by omega))).grown hg (by omega) (fun g' e=>by cases e;omega),?_,by omega,by simp,by simp;omega,by omega,?_,?_⟩
 ·rw[hg.block _ (by omega) (fun e=>by cases e;omega),hb.block _ (by omega)];exact h.res
 ·intro x hx
  rcases List.mem_append.1 hx with hx | hx
  ·exact h.good x (by simp[hx])
  ·simp at hx;subst hx;exact⟨hm,hd⟩
 ·rw[zjQ,zjQ,zjR,zjR] at ht
  rw[zjQ,zjR];omega
theorem zle {w:World} {base:Nat} {e:TypeId} {size g n c:Nat} {xs:List Value} (h:w.ownsRow base e size (.slice (some ⟨g,0,none⟩) n c) n xs):n≤c:=by
 rcases h.2 with ⟨hv,_⟩ | ⟨g',cap',cur,hv,_,_,hc,_⟩
 ·cases hv
 ·cases hv;exact hc
theorem zL.cap {w:World} {k:Nat} {ini:List Md} {q m:Md} {g cp:Nat} {wr:World} (h:zL w k (ini++[q]++[m]) (.slice (some ⟨g,0,none⟩) (ini.length+1+1) cp) wr):ini.length+1+1≤cp:=by
 have hop:=h.own
 rw[show (ini++[q]++[m]).length=ini.length+1+1 by simp] at hop
 exact zle hop
theorem zjV {p:Prop} (h:p):Hid p:=h
theorem zjS (j:Nat) (hj:j<10):∃ (e:Bool) (d:Nat),Gx (zO.getD j []) e d∧d≤4∧(zO.getD j []).length≤29∧(((zO.getD j [] == [40,41])=true∧e=true∧d=1)∨((zO.getD j [] == [40,41])=false∧e=false∧d=0)):=by
 by_cases h9:j=9
 ·subst h9;exact⟨true,1,zkF,by decide,by decide,.inl ⟨by decide,rfl,rfl⟩⟩
 ·refine⟨false,0,zki j (by omega),by decide,?_,.inr ⟨?_,rfl,rfl⟩⟩
  ·have:j=0∨j=1∨j=2∨j=3∨j=4∨j=5∨j=6∨j=7∨j=8:=by omega
   rcases this with rfl | rfl | rfl | rfl | rfl | rfl | rfl | rfl | rfl<;>decide
  ·have:j=0∨j=1∨j=2∨j=3∨j=4∨j=5∨j=6∨j=7∨j=8:=by omega
   rcases this with rfl | rfl | rfl | rfl | rfl | rfl | rfl | rfl | rfl<;>decide
theorem qf (m:Md):∀ u ∈ mdC m,u.oneCell'=true:=by
 intro u hu
 simp[mdC] at hu
 rcases hu with rfl | rfl | rfl<;>rfl
def zkA (w:World) (e:Ending) (w':World):Prop:=e = .returned (.slice (some ⟨w.heap.size,0,none⟩) 10 10)∧Below w.heap.size w w'∧w.heap.size<w'.heap.size∧∀ j,j<10→w'.cell? ⟨w.heap.size,j,none⟩=some (.string (bs (zO.getD j [])))
theorem zjW (w:World):Calls Tryd.prog 10 #[] w fun e w'=>zkA w e w':=by
 go_enter Tryd.func10,Tryd.ntmps10
 go_wp2
 go_ret
 refine⟨rfl,zc w _,by simp,?_⟩
 intro j hj
 have:j=0∨j=1∨j=2∨j=3∨j=4∨j=5∨j=6∨j=7∨j=8∨j=9:=by omega
 rw[z8 (zk w _)]
 rcases this with rfl | rfl | rfl | rfl | rfl | rfl | rfl | rfl | rfl | rfl<;>rfl
def zkB (w:World) (e:Ending) (w':World):Prop:=∃ m:Md,e = .returned (mdV m.1 m.2.1 m.2.2)∧Gx m.1 m.2.1 m.2.2∧m.2.2≤4∧m.1.length≤700∧Below w.heap.size w w'
theorem zl0 (w:World) (a:Option Addr) (len cap:Nat) (style:Int) (hr:zjX w a len) (hl:len≤maxLen) (hs:i64 style) :
  Calls Tryd.prog 4 #[.slice a len cap,.int .i64 style] w fun e w'=>zkB w e w':=by
 obtain⟨i0,hi,hz0,hz1,hz2⟩:=info_parts Tryd.infoMade
 have HR:Hid (zjX w a len):=hr
 have HS:Hid (i64 style):=hs
 clear hr hs
 have hlm:(len:Int)≤9223372036854775807:=by unfold maxLen at hl;omega
 go_enter Tryd.func4,Tryd.ntmps4
 go_wp2_with fail
 go_loopw [5,6] (fun v i wr=>∃ (k:Nat) (ms:List Md),i = .int .i64 k∧zL w k ms v wr) (fun _ i _=>24 - (intOf i).toNat)
 case atStart=>
  refine⟨0,[([39,97,39],false,0)],rfl,⟨⟨rfl,.inr ⟨w.heap.size+1,1,_,rfl,Nat.le_refl _,qb _ _ _ (by simp),Nat.le_refl _,by decide,rfl,rfl⟩⟩,(zc w _).alloc (by simp) _,?_,by simp,by simp,by simp,by omega,?_,by simp[tot]⟩⟩
  ·rw[zm _ _ (by simp)];exact zk _ _
  ·intro m hm
   simp at hm;subst hm
   exact⟨zki 0 (by decide),by decide⟩
 case round=>
  obtain⟨k,ms,rfl,hR⟩:=hrel
  have htop:=hR.top
  have hsz:=hR.size
  have hres:=z8 hR.res
  have hfr:=zi hR.res
  have hlt0:w.heap.size<wr.heap.size:=by omega
  obtain⟨ini,m,g,cp,rfl,rfl,hgl,hgw,c0,c1,c2,cf⟩:=hR.last
  have hcnt:=hR.cnt
  rw[List.length_append,List.length_singleton] at hcnt
  have HRR:Hid (zL w k (ini++[m]) (.slice (some ⟨g,0,none⟩) (ini.length+1) cp) wr):=hR
  clear hR
  by_cases hkl:k<len
  ·by_cases hk24:k<24
   ·obtain⟨x,c,rfl,hxb,hxc,hci⟩:=HR.out k hkl
    have hcell:wr.cell? (x.add k)=some (.int .i64 c):=(HRR.out.below.cell hxb).trans hxc
    have hp:=fun w=>zk7 c 1099511627776 w hci (by decide) (by decide)
    have hV0:=zh9 c (n:=1099511627776) (by decide)
    obtain⟨V,hV⟩:∃ V,V=YY c 1099511627776:=⟨_,rfl⟩
    rw[← hV] at hp hV0
    clear hV hxc hci hxb
    have h4:V % 4<4:=Nat.mod_lt _ (by decide)
    by_cases hc2 : 2≤V % 4
    ·have hka:=zjW
     have hj:V / 4 % 10<10:=Nat.mod_lt _ (by decide)
     go_wp2_with (first | (go_at_call 6;refine (hp _).mono ?_;rintro _ w' ⟨rfl,hw⟩;replace hw:=hw.symm;subst hw))
     refine (hka _).mono ?_
     rintro _ w2 ⟨rfl,hb2,hs2,hat⟩
     have hown1:=Zv (HRR.out.own.alloc (mdO m.1 m.2.1 m.2.2)) hb2
     rw[List.length_append,List.length_singleton] at hown1
     have hat1:=hat _ hj
     simp only[World.size_alloc] at hat1 hs2
     obtain⟨e0,d0,hG0,hd0,hl0,hq0⟩:=zjS _ hj
     generalize zO.getD (V / 4 % 10) []=T at hat1 hG0 hl0 hq0
     have HG0:=(show Hid (Gx T e0 d0) from hG0)
     have HBW:Hid (∀ O1 O2,Below wr.heap.size wr ((w2.alloc O1).alloc O2)):=fun O1 O2=>(((zc wr _).trans (hb2.mono (by simp))).alloc (by omega) _).alloc (by simp;omega) _
     clear hat hb2 hka hG0
     rcases hq0 with ⟨hTe,rfl,rfl⟩ | ⟨hTe,rfl,rfl⟩
     ·go_wp2_with (first | (at_builtin;refine wpList_append_lies _ rfl _ _ 33 rfl (w.heap.size+1) 24 i0 _ 3 32 Tryd.underlying33 hi hz0 hz1 hz2 rfl (by decide) _ _ _ rfl ((hown1.alloc _).alloc _) ⟨w2.heap.size+1,0,none⟩ 1 1 (mdC (T,true,1)) rfl rfl ?c1 (qf _) (by decide) ?c3 ?c4 ?c5 (w2.heap.size+2) (by simp) ?_))
      case c1=>exact World.news_of_block (qb _ _ _ (by simp))
      case c3=>unfold maxLen;(try simp only[List.length_nil,List.length_append,List.length_singleton]);omega
      case c4=>(try simp only[List.length_nil,List.length_append,List.length_singleton]);omega
      case c5=>simp;omega
      intro g3 cp3 w3 hown3 hgrow3 hat3 hlt3
      have hN:=HRR.out.push hk24 (HBW.out _ _) (m:=(T,true,1)) (by simpa using hown3) hgrow3 HG0.out hd0 hl0
      clear hown1 hown3 hgrow3 hat3
      go_wp2
      go_roundw
      case rel=>exact⟨k+1,_,by go_num,hN⟩
      case measure=>simp[intOf];omega
     ·go_wp2_with (first | (at_builtin;refine wpList_append_lies _ rfl _ _ 33 rfl (w.heap.size+1) 24 i0 _ 3 32 Tryd.underlying33 hi hz0 hz1 hz2 rfl (by decide) _ _ _ rfl ((hown1.alloc _).alloc _) ⟨w2.heap.size+1,0,none⟩ 1 1 (mdC (T,false,0)) rfl rfl ?c1 (qf _) (by decide) ?c3 ?c4 ?c5 (w2.heap.size+2) (by simp) ?_))
      case c1=>exact World.news_of_block (qb _ _ _ (by simp))
      case c3=>unfold maxLen;(try simp only[List.length_nil,List.length_append,List.length_singleton]);omega
      case c4=>(try simp only[List.length_nil,List.length_append,List.length_singleton]);omega
      case c5=>simp;omega
      intro g3 cp3 w3 hown3 hgrow3 hat3 hlt3
      have hN:=HRR.out.push hk24 (HBW.out _ _) (m:=(T,false,0)) (by simpa using hown3) hgrow3 HG0.out hd0 hl0
      clear hown1 hown3 hgrow3 hat3
      go_wp2
      go_roundw
      case rel=>exact⟨k+1,_,by go_num,hN⟩
      case measure=>simp[intOf];omega
    ·by_cases hm4:m.2.2<4
     ·by_cases hv1:V % 4=1
      ·have hsg:=fun w=>zl8 m.1 m.2.1 m.2.2 ((V:Int) / 4) style w (by constructor<;>omega) HS.out (by have:=HRR.out.tot;have:=zke (ms:=ini++[m]) (m:=m) (by simp);omega) (by omega)
       go_wp2_with (first | (go_at_call 6;refine (hp _).mono ?_;rintro _ w' ⟨rfl,hw⟩;replace hw:=hw.symm;subst hw))
       refine (hsg _).mono ?_
       rintro _ w2 ⟨t',e',rfl,hPo,hb2⟩
       have hop2:=Zv (HRR.out.own.alloc (mdO m.1 m.2.1 m.2.2)) hb2
       have cf2:=fun o=>(World.ownsRow.frozenAt (by simpa using hop2) o:w2.frozen? ⟨g,o,none⟩=false)
       have hbw:=(zc wr (mdO m.1 m.2.1 m.2.2)).trans (hb2.mono (by simp))
       have x0:=(hbw.cell (p:=⟨g,ini.length * 3,none⟩) hgw).trans c0
       have x1:=(hbw.cell (p:=⟨g,ini.length * 3+1,none⟩) hgw).trans c1
       have x2:=(hbw.cell (p:=⟨g,ini.length * 3+2,none⟩) hgw).trans c2
       have hs2:=hb2.size
       simp at hs2
       have n2:g<w2.heap.size:=by omega
       obtain⟨hG2,hL2⟩:=zkH (HRR.out.good m (by simp)).1 (ql style) hPo
       have hN:=HRR.out.setLast hk24 hbw (m':=(t',e',m.2.2+1)) hG2 (by simp;omega) hL2
       clear hsg hop2 hb2 hPo hG2 hL2 hbw
       go_wp2
       go_roundw
       case rel=>exact⟨k+1,_,by go_num,hN⟩
       case measure=>simp[intOf];omega
      ·have hv0:V % 4=0:=by omega
       rcases zkt ini with rfl | ⟨ini',q,rfl⟩
       ·simp only[List.length_nil,Nat.zero_mul,Nat.zero_add] at c0 c1 c2 hcnt HRR ⊢
        have hka:=zjW
        have hj:V / 4 % 10<10:=Nat.mod_lt _ (by decide)
        go_wp2_with (first | (go_at_call 6;refine (hp _).mono ?_;rintro _ w' ⟨rfl,hw⟩;replace hw:=hw.symm;subst hw))
        refine (hka _).mono ?_
        rintro _ w2 ⟨rfl,hb2,hs2,hat⟩
        have hown1:=Zv (HRR.out.own.alloc (mdO m.1 m.2.1 m.2.2)) hb2
        rw[List.length_append,List.length_singleton] at hown1
        have hat1:=hat _ hj
        simp only[World.size_alloc] at hat1 hs2
        obtain⟨e0,d0,hG0,hd0,hl0,hq0⟩:=zjS _ hj
        generalize zO.getD (V / 4 % 10) []=T at hat1 hG0 hl0 hq0
        have HG0:=(show Hid (Gx T e0 d0) from hG0)
        have HBW:Hid (∀ O1 O2,Below wr.heap.size wr ((w2.alloc O1).alloc O2)):=fun O1 O2=>(((zc wr _).trans (hb2.mono (by simp))).alloc (by omega) _).alloc (by simp;omega) _
        clear hat hb2 hka hG0
        rcases hq0 with ⟨hTe,rfl,rfl⟩ | ⟨hTe,rfl,rfl⟩
        ·go_wp2_with (first | (at_builtin;refine wpList_append_lies _ rfl _ _ 33 rfl (w.heap.size+1) 24 i0 _ 3 32 Tryd.underlying33 hi hz0 hz1 hz2 rfl (by decide) _ _ _ rfl ((hown1.alloc _).alloc _) ⟨w2.heap.size+1,0,none⟩ 1 1 (mdC (T,true,1)) rfl rfl ?c1 (qf _) (by decide) ?c3 ?c4 ?c5 (w2.heap.size+2) (by simp) ?_))
         case c1=>exact World.news_of_block (qb _ _ _ (by simp))
         case c3=>unfold maxLen;(try simp only[List.length_nil,List.length_append,List.length_singleton]);omega
         case c4=>(try simp only[List.length_nil,List.length_append,List.length_singleton]);omega
         case c5=>simp;omega
         intro g3 cp3 w3 hown3 hgrow3 hat3 hlt3
         have hN:=HRR.out.push hk24 (HBW.out _ _) (m:=(T,true,1)) (by simpa using hown3) hgrow3 HG0.out hd0 hl0
         clear hown1 hown3 hgrow3 hat3
         go_wp2
         go_roundw
         case rel=>exact⟨k+1,_,by go_num,hN⟩
         case measure=>simp[intOf];omega
        ·go_wp2_with (first | (at_builtin;refine wpList_append_lies _ rfl _ _ 33 rfl (w.heap.size+1) 24 i0 _ 3 32 Tryd.underlying33 hi hz0 hz1 hz2 rfl (by decide) _ _ _ rfl ((hown1.alloc _).alloc _) ⟨w2.heap.size+1,0,none⟩ 1 1 (mdC (T,false,0)) rfl rfl ?c1 (qf _) (by decide) ?c3 ?c4 ?c5 (w2.heap.size+2) (by simp) ?_))
         case c1=>exact World.news_of_block (qb _ _ _ (by simp))
         case c3=>unfold maxLen;(try simp only[List.length_nil,List.length_append,List.length_singleton]);omega
         case c4=>(try simp only[List.length_nil,List.length_append,List.length_singleton]);omega
         case c5=>simp;omega
         intro g3 cp3 w3 hown3 hgrow3 hat3 hlt3
         have hN:=HRR.out.push hk24 (HBW.out _ _) (m:=(T,false,0)) (by simpa using hown3) hgrow3 HG0.out hd0 hl0
         clear hown1 hown3 hgrow3 hat3
         go_wp2
         go_roundw
         case rel=>exact⟨k+1,_,by go_num,hN⟩
         case measure=>simp[intOf];omega
       ·simp only[List.length_append,List.length_singleton] at c0 c1 c2 hcnt HRR ⊢
        obtain⟨p0,p1,p2⟩:=HRR.out.prev
        by_cases hq4:q.2.2<4
        ·have hms:=HRR.out.good m (by simp)
         have hqs:=HRR.out.good q (by simp)
         have htt:=HRR.out.tot
         rw[zjQ,zjQ,zjR,zjR] at htt
         obtain⟨t2,e2,d2,htw,hG2,hd2,hL2⟩:=zly q m ((V:Int) / 4 % 2 == 0) style HS.out hqs.1 hms.1 hq4 hm4 (by omega) (by omega)
         have HG2:=(show Hid (Gx t2 e2 d2) from hG2)
         clear hms hqs hG2
         have hw0:IntKind.i64.wrap (ini'.length:Int)=(ini'.length:Int):=by
          unfold IntKind.wrap
          simp[IntKind.signed,IntKind.bits]
          omega
         have hw1:(ini'.length:Int)+1+1 - 2=(ini'.length:Int):=by omega
         have hw2:((ini'.length+1+1:Nat):Int) - 2=(ini'.length:Int):=by omega
         go_upto_region 13 with (first | (go_at_call 6;refine (hp _).mono ?_;rintro _ w' ⟨rfl,hw⟩;replace hw:=hw.symm;subst hw))
         have HTW:=zjV htw
         clear htw
         go_cut [9] from 14 to 114 (fun p9 wx=>∃ b,p9 = .pointer (some ⟨b,0,none⟩)∧zk9 wr wx b t2 e2 d2)
         case first=>
          go_region_with (first | (go_at_call 8;refine (HTW.out _).mono ?_;rintro _ w2 ⟨rfl,hb2⟩;have y1:=fun p h=>hb2.cell (p:=p) h;have y2:=fun p h=>hb2.frozen (p:=p) h;have y3:=hb2.size;have HB2:=zjV hb2;clear hb2))
          all_goals (try go_wp2_with fail)
          all_goals go_meet
          all_goals first | exact⟨_,rfl,zkW HB2.out⟩ | exact⟨_,rfl,zkX HB2.out⟩
         case rest=>
          obtain⟨b,rfl,hC⟩:=hcut
          have z0:=z8 hC.blk
          have hbl:b<wc.heap.size:=zd hC.blk
          have hown:=HRR.out.popTwo hC.below
          have HOWN:=zjV hown
          have HCB:=zjV hC.below
          have hsw:=hC.below.size
          have hnb:((wc.alloc (.cells #[.string (bs t2),.bool e2,.int .i64 ↑d2] 24)).drew).heap[wc.heap.size]? = some (.cells #[.string (bs t2),.bool e2,.int .i64 ↑d2] 24 (0,0)):=zk _ _
          have HNB:=zjV hnb
          have HM:Hid (ini'.length+1≤maxLen):=by show _≤_;unfold maxLen;omega
          have hcp:=HRR.out.cap
          have hcp1:ini'.length≤cp:=by omega
          have hcp2:(ini'.length:Int)≤(cp:Int):=by omega
          clear hC hown hnb p0 p1 p2 c0 c1 c2 hp
          go_wp2_with fail
          go_region_law ((refine step_append_lies _ (by rfl) _ _ _ (by rfl) (w.heap.size+1) 24 i0 _ 3 32 Tryd.underlying33 hi hz0 hz1 hz2 (by rfl) (by decide) _ _ _ (by rfl) (HOWN.out.alloc _) ⟨wc.heap.size,0,none⟩ 1 1 (mdC (t2,e2,d2)) (by rfl) (by rfl) (World.news_of_block HNB.out) (qf _) (by decide) HM.out (by omega) (by simp;omega) (wc.heap.size+1) (by simp) ?_;intro g3 cp3 w3 hown3 hgrow3 hat3 hlt3;have hN:=HRR.out.pushTwo hk24 ((HCB.out.alloc hsw _).drew) (m':=(t2,e2,d2)) hown3 hgrow3 HG2.out hd2 hL2;have HN:=zjV hN;clear hN hown3 hgrow3 hat3))
          all_goals go_wp2
          all_goals go_roundw
          case rel=>exact⟨k+1,_,by go_num,HN.out⟩
          case measure=>simp[intOf];omega
        ·have hka:=zjW
         have hj:V / 4 % 10<10:=Nat.mod_lt _ (by decide)
         go_wp2_with (first | (go_at_call 6;refine (hp _).mono ?_;rintro _ w' ⟨rfl,hw⟩;replace hw:=hw.symm;subst hw))
         refine (hka _).mono ?_
         rintro _ w2 ⟨rfl,hb2,hs2,hat⟩
         have hown1:=Zv (HRR.out.own.alloc (mdO m.1 m.2.1 m.2.2)) hb2
         rw[List.length_append,List.length_singleton] at hown1
         have hat1:=hat _ hj
         simp only[World.size_alloc] at hat1 hs2
         obtain⟨e0,d0,hG0,hd0,hl0,hq0⟩:=zjS _ hj
         generalize zO.getD (V / 4 % 10) []=T at hat1 hG0 hl0 hq0
         have HG0:=(show Hid (Gx T e0 d0) from hG0)
         have HBW:Hid (∀ O1 O2,Below wr.heap.size wr ((w2.alloc O1).alloc O2)):=fun O1 O2=>(((zc wr _).trans (hb2.mono (by simp))).alloc (by omega) _).alloc (by simp;omega) _
         clear hat hb2 hka hG0
         rcases hq0 with ⟨hTe,rfl,rfl⟩ | ⟨hTe,rfl,rfl⟩
         ·go_wp2_with (first | (at_builtin;refine wpList_append_lies _ rfl _ _ 33 rfl (w.heap.size+1) 24 i0 _ 3 32 Tryd.underlying33 hi hz0 hz1 hz2 rfl (by decide) _ _ _ rfl ((hown1.alloc _).alloc _) ⟨w2.heap.size+1,0,none⟩ 1 1 (mdC (T,true,1)) rfl rfl ?c1 (qf _) (by decide) ?c3 ?c4 ?c5 (w2.heap.size+2) (by simp) ?_))
          case c1=>exact World.news_of_block (qb _ _ _ (by simp))
          case c3=>unfold maxLen;(try simp only[List.length_nil,List.length_append,List.length_singleton]);omega
          case c4=>(try simp only[List.length_nil,List.length_append,List.length_singleton]);omega
          case c5=>simp;omega
          intro g3 cp3 w3 hown3 hgrow3 hat3 hlt3
          have hN:=HRR.out.push hk24 (HBW.out _ _) (m:=(T,true,1)) (by simpa using hown3) hgrow3 HG0.out hd0 hl0
          clear hown1 hown3 hgrow3 hat3
          go_wp2
          go_roundw
          case rel=>exact⟨k+1,_,by go_num,hN⟩
          case measure=>simp[intOf];omega
         ·go_wp2_with (first | (at_builtin;refine wpList_append_lies _ rfl _ _ 33 rfl (w.heap.size+1) 24 i0 _ 3 32 Tryd.underlying33 hi hz0 hz1 hz2 rfl (by decide) _ _ _ rfl ((hown1.alloc _).alloc _) ⟨w2.heap.size+1,0,none⟩ 1 1 (mdC (T,false,0)) rfl rfl ?c1 (qf _) (by decide) ?c3 ?c4 ?c5 (w2.heap.size+2) (by simp) ?_))
          case c1=>exact World.news_of_block (qb _ _ _ (by simp))
          case c3=>unfold maxLen;(try simp only[List.length_nil,List.length_append,List.length_singleton]);omega
          case c4=>(try simp only[List.length_nil,List.length_append,List.length_singleton]);omega
          case c5=>simp;omega
          intro g3 cp3 w3 hown3 hgrow3 hat3 hlt3
          have hN:=HRR.out.push hk24 (HBW.out _ _) (m:=(T,false,0)) (by simpa using hown3) hgrow3 HG0.out hd0 hl0
          clear hown1 hown3 hgrow3 hat3
          go_wp2
          go_roundw
          case rel=>exact⟨k+1,_,by go_num,hN⟩
          case measure=>simp[intOf];omega
     ·by_cases hv1:V % 4=1
      ·have hka:=zjW
       have hj:V / 4 % 10<10:=Nat.mod_lt _ (by decide)
       go_wp2_with (first | (go_at_call 6;refine (hp _).mono ?_;rintro _ w' ⟨rfl,hw⟩;replace hw:=hw.symm;subst hw))
       refine (hka _).mono ?_
       rintro _ w2 ⟨rfl,hb2,hs2,hat⟩
       have hown1:=Zv (HRR.out.own.alloc (mdO m.1 m.2.1 m.2.2)) hb2
       rw[List.length_append,List.length_singleton] at hown1
       have hat1:=hat _ hj
       simp only[World.size_alloc] at hat1 hs2
       obtain⟨e0,d0,hG0,hd0,hl0,hq0⟩:=zjS _ hj
       generalize zO.getD (V / 4 % 10) []=T at hat1 hG0 hl0 hq0
       have HG0:=(show Hid (Gx T e0 d0) from hG0)
       have HBW:Hid (∀ O1 O2,Below wr.heap.size wr ((w2.alloc O1).alloc O2)):=fun O1 O2=>(((zc wr _).trans (hb2.mono (by simp))).alloc (by omega) _).alloc (by simp;omega) _
       clear hat hb2 hka hG0
       rcases hq0 with ⟨hTe,rfl,rfl⟩ | ⟨hTe,rfl,rfl⟩
       ·go_wp2_with (first | (at_builtin;refine wpList_append_lies _ rfl _ _ 33 rfl (w.heap.size+1) 24 i0 _ 3 32 Tryd.underlying33 hi hz0 hz1 hz2 rfl (by decide) _ _ _ rfl ((hown1.alloc _).alloc _) ⟨w2.heap.size+1,0,none⟩ 1 1 (mdC (T,true,1)) rfl rfl ?c1 (qf _) (by decide) ?c3 ?c4 ?c5 (w2.heap.size+2) (by simp) ?_))
        case c1=>exact World.news_of_block (qb _ _ _ (by simp))
        case c3=>unfold maxLen;(try simp only[List.length_nil,List.length_append,List.length_singleton]);omega
        case c4=>(try simp only[List.length_nil,List.length_append,List.length_singleton]);omega
        case c5=>simp;omega
        intro g3 cp3 w3 hown3 hgrow3 hat3 hlt3
        have hN:=HRR.out.push hk24 (HBW.out _ _) (m:=(T,true,1)) (by simpa using hown3) hgrow3 HG0.out hd0 hl0
        clear hown1 hown3 hgrow3 hat3
        go_wp2
        go_roundw
        case rel=>exact⟨k+1,_,by go_num,hN⟩
        case measure=>simp[intOf];omega
       ·go_wp2_with (first | (at_builtin;refine wpList_append_lies _ rfl _ _ 33 rfl (w.heap.size+1) 24 i0 _ 3 32 Tryd.underlying33 hi hz0 hz1 hz2 rfl (by decide) _ _ _ rfl ((hown1.alloc _).alloc _) ⟨w2.heap.size+1,0,none⟩ 1 1 (mdC (T,false,0)) rfl rfl ?c1 (qf _) (by decide) ?c3 ?c4 ?c5 (w2.heap.size+2) (by simp) ?_))
        case c1=>exact World.news_of_block (qb _ _ _ (by simp))
        case c3=>unfold maxLen;(try simp only[List.length_nil,List.length_append,List.length_singleton]);omega
        case c4=>(try simp only[List.length_nil,List.length_append,List.length_singleton]);omega
        case c5=>simp;omega
        intro g3 cp3 w3 hown3 hgrow3 hat3 hlt3
        have hN:=HRR.out.push hk24 (HBW.out _ _) (m:=(T,false,0)) (by simpa using hown3) hgrow3 HG0.out hd0 hl0
        clear hown1 hown3 hgrow3 hat3
        go_wp2
        go_roundw
        case rel=>exact⟨k+1,_,by go_num,hN⟩
        case measure=>simp[intOf];omega
      ·have hv0:V % 4=0:=by omega
       rcases zkt ini with rfl | ⟨ini',q,hiq⟩
       ·simp only[List.length_nil,Nat.zero_mul,Nat.zero_add] at c0 c1 c2 hcnt HRR ⊢
        have hka:=zjW
        have hj:V / 4 % 10<10:=Nat.mod_lt _ (by decide)
        go_wp2_with (first | (go_at_call 6;refine (hp _).mono ?_;rintro _ w' ⟨rfl,hw⟩;replace hw:=hw.symm;subst hw))
        refine (hka _).mono ?_
        rintro _ w2 ⟨rfl,hb2,hs2,hat⟩
        have hown1:=Zv (HRR.out.own.alloc (mdO m.1 m.2.1 m.2.2)) hb2
        rw[List.length_append,List.length_singleton] at hown1
        have hat1:=hat _ hj
        simp only[World.size_alloc] at hat1 hs2
        obtain⟨e0,d0,hG0,hd0,hl0,hq0⟩:=zjS _ hj
        generalize zO.getD (V / 4 % 10) []=T at hat1 hG0 hl0 hq0
        have HG0:=(show Hid (Gx T e0 d0) from hG0)
        have HBW:Hid (∀ O1 O2,Below wr.heap.size wr ((w2.alloc O1).alloc O2)):=fun O1 O2=>(((zc wr _).trans (hb2.mono (by simp))).alloc (by omega) _).alloc (by simp;omega) _
        clear hat hb2 hka hG0
        rcases hq0 with ⟨hTe,rfl,rfl⟩ | ⟨hTe,rfl,rfl⟩
        ·go_wp2_with (first | (at_builtin;refine wpList_append_lies _ rfl _ _ 33 rfl (w.heap.size+1) 24 i0 _ 3 32 Tryd.underlying33 hi hz0 hz1 hz2 rfl (by decide) _ _ _ rfl ((hown1.alloc _).alloc _) ⟨w2.heap.size+1,0,none⟩ 1 1 (mdC (T,true,1)) rfl rfl ?c1 (qf _) (by decide) ?c3 ?c4 ?c5 (w2.heap.size+2) (by simp) ?_))
         case c1=>exact World.news_of_block (qb _ _ _ (by simp))
         case c3=>unfold maxLen;(try simp only[List.length_nil,List.length_append,List.length_singleton]);omega
         case c4=>(try simp only[List.length_nil,List.length_append,List.length_singleton]);omega
         case c5=>simp;omega
         intro g3 cp3 w3 hown3 hgrow3 hat3 hlt3
         have hN:=HRR.out.push hk24 (HBW.out _ _) (m:=(T,true,1)) (by simpa using hown3) hgrow3 HG0.out hd0 hl0
         clear hown1 hown3 hgrow3 hat3
         go_wp2
         go_roundw
         case rel=>exact⟨k+1,_,by go_num,hN⟩
         case measure=>simp[intOf];omega
        ·go_wp2_with (first | (at_builtin;refine wpList_append_lies _ rfl _ _ 33 rfl (w.heap.size+1) 24 i0 _ 3 32 Tryd.underlying33 hi hz0 hz1 hz2 rfl (by decide) _ _ _ rfl ((hown1.alloc _).alloc _) ⟨w2.heap.size+1,0,none⟩ 1 1 (mdC (T,false,0)) rfl rfl ?c1 (qf _) (by decide) ?c3 ?c4 ?c5 (w2.heap.size+2) (by simp) ?_))
         case c1=>exact World.news_of_block (qb _ _ _ (by simp))
         case c3=>unfold maxLen;(try simp only[List.length_nil,List.length_append,List.length_singleton]);omega
         case c4=>(try simp only[List.length_nil,List.length_append,List.length_singleton]);omega
         case c5=>simp;omega
         intro g3 cp3 w3 hown3 hgrow3 hat3 hlt3
         have hN:=HRR.out.push hk24 (HBW.out _ _) (m:=(T,false,0)) (by simpa using hown3) hgrow3 HG0.out hd0 hl0
         clear hown1 hown3 hgrow3 hat3
         go_wp2
         go_roundw
         case rel=>exact⟨k+1,_,by go_num,hN⟩
         case measure=>simp[intOf];omega
       ·have hi1 : 1≤ini.length:=by rw[hiq];simp
        clear hiq
        have hka:=zjW
        have hj:V / 4 % 10<10:=Nat.mod_lt _ (by decide)
        go_wp2_with (first | (go_at_call 6;refine (hp _).mono ?_;rintro _ w' ⟨rfl,hw⟩;replace hw:=hw.symm;subst hw))
        refine (hka _).mono ?_
        rintro _ w2 ⟨rfl,hb2,hs2,hat⟩
        have hown1:=Zv (HRR.out.own.alloc (mdO m.1 m.2.1 m.2.2)) hb2
        rw[List.length_append,List.length_singleton] at hown1
        have hat1:=hat _ hj
        simp only[World.size_alloc] at hat1 hs2
        obtain⟨e0,d0,hG0,hd0,hl0,hq0⟩:=zjS _ hj
        generalize zO.getD (V / 4 % 10) []=T at hat1 hG0 hl0 hq0
        have HG0:=(show Hid (Gx T e0 d0) from hG0)
        have HBW:Hid (∀ O1 O2,Below wr.heap.size wr ((w2.alloc O1).alloc O2)):=fun O1 O2=>(((zc wr _).trans (hb2.mono (by simp))).alloc (by omega) _).alloc (by simp;omega) _
        clear hat hb2 hka hG0
        rcases hq0 with ⟨hTe,rfl,rfl⟩ | ⟨hTe,rfl,rfl⟩
        ·go_wp2_with (first | (at_builtin;refine wpList_append_lies _ rfl _ _ 33 rfl (w.heap.size+1) 24 i0 _ 3 32 Tryd.underlying33 hi hz0 hz1 hz2 rfl (by decide) _ _ _ rfl ((hown1.alloc _).alloc _) ⟨w2.heap.size+1,0,none⟩ 1 1 (mdC (T,true,1)) rfl rfl ?c1 (qf _) (by decide) ?c3 ?c4 ?c5 (w2.heap.size+2) (by simp) ?_))
         case c1=>exact World.news_of_block (qb _ _ _ (by simp))
         case c3=>unfold maxLen;(try simp only[List.length_nil,List.length_append,List.length_singleton]);omega
         case c4=>(try simp only[List.length_nil,List.length_append,List.length_singleton]);omega
         case c5=>simp;omega
         intro g3 cp3 w3 hown3 hgrow3 hat3 hlt3
         have hN:=HRR.out.push hk24 (HBW.out _ _) (m:=(T,true,1)) (by simpa using hown3) hgrow3 HG0.out hd0 hl0
         clear hown1 hown3 hgrow3 hat3
         go_wp2
         go_roundw
         case rel=>exact⟨k+1,_,by go_num,hN⟩
         case measure=>simp[intOf];omega
        ·go_wp2_with (first | (at_builtin;refine wpList_append_lies _ rfl _ _ 33 rfl (w.heap.size+1) 24 i0 _ 3 32 Tryd.underlying33 hi hz0 hz1 hz2 rfl (by decide) _ _ _ rfl ((hown1.alloc _).alloc _) ⟨w2.heap.size+1,0,none⟩ 1 1 (mdC (T,false,0)) rfl rfl ?c1 (qf _) (by decide) ?c3 ?c4 ?c5 (w2.heap.size+2) (by simp) ?_))
         case c1=>exact World.news_of_block (qb _ _ _ (by simp))
         case c3=>unfold maxLen;(try simp only[List.length_nil,List.length_append,List.length_singleton]);omega
         case c4=>(try simp only[List.length_nil,List.length_append,List.length_singleton]);omega
         case c5=>simp;omega
         intro g3 cp3 w3 hown3 hgrow3 hat3 hlt3
         have hN:=HRR.out.push hk24 (HBW.out _ _) (m:=(T,false,0)) (by simpa using hown3) hgrow3 HG0.out hd0 hl0
         clear hown1 hown3 hgrow3 hat3
         go_wp2
         go_roundw
         case rel=>exact⟨k+1,_,by go_num,hN⟩
         case measure=>simp[intOf];omega
   ·go_wp2_with fail
    refine bodyPost_ret (v:=mdV m.1 m.2.1 m.2.2) (by simp[results,Tryd.results4,go_sem,hres,hlt0];done) rfl ⟨m,rfl,(HRR.out.good m (by simp)).1,(HRR.out.good m (by simp)).2,?_,?_⟩
    ·have h1:=HRR.out.tot;have h2:=zke (ms:=ini++[m]) (m:=m) (by simp);omega
    ·exact (((HRR.out.below.setCell (Nat.le_refl _) _).setCell (Nat.le_refl _) _).setCell (Nat.le_refl _) _)
  ·go_wp2_with fail
   refine bodyPost_ret (v:=mdV m.1 m.2.1 m.2.2) (by simp[results,Tryd.results4,go_sem,hres,hlt0];done) rfl ⟨m,rfl,(HRR.out.good m (by simp)).1,(HRR.out.good m (by simp)).2,?_,?_⟩
   ·have h1:=HRR.out.tot;have h2:=zke (ms:=ini++[m]) (m:=m) (by simp);omega
   ·exact (((HRR.out.below.setCell (Nat.le_refl _) _).setCell (Nat.le_refl _) _).setCell (Nat.le_refl _) _)
end Go.Proofs.YtiganlkabilblaaDoor
namespace Go.Proofs.YtiganlkabilblaaDoor
open Go
theorem zry {P:Program} {ops:Array Oper} {Q:Exit→Act→World→Prop} {K:Act→World→Prop} {a:Act} {w:World} {j:Nat} {oj:Oper} (hj:ops[j]? = some oj) (h:wpOp P ops Q j K a w) :
  wpOp P ops Q j (fun a' w'=>(∃ u d,a'=({ a with defers:=d }:Act).put oj.dst u)∧K a' w') a w:=by
 unfold wpOp at *
 simp only[hj] at *
 split
 ·rename_i hw
  simp only[hw,if_true] at h
  rcases h with h | h
  case inr=>exact .inr h
  refine .inl ?_
  unfold Oper.wp at *
  generalize (execOp a.eval oj).run P w=r at *
  cases r with
  | ok n w'=>
   cases n<;>simp only[Oper.upon] at h ⊢
   case value u=>exact⟨⟨u,a.defers,rfl⟩,h⟩
   case skip=>exact⟨⟨undef,a.defers,rfl⟩,h⟩
   case defer d=>exact⟨⟨undef,d::a.defers,rfl⟩,h⟩
   case enter f args=>
    refine Calls.mono h fun e w'' he=>?_
    cases e with
    | returned u=>exact⟨⟨u,a.defers,rfl⟩,he⟩
    | panicked c=>exact he
    | outgrown=>exact he
   case row row args=>exact Rows.mono h fun u w'' he=>⟨⟨u,a.defers,rfl⟩,he⟩
  | halt x w'=>cases x<;>simp only[Oper.upon] at h ⊢<;>exact h
 ·rename_i hw
  simp only[hw] at h
  exact⟨⟨undef,a.defers,rfl⟩,h⟩
theorem zrj {P:Program} {ops:Array Oper} {Q:Exit→Act→World→Prop} {md:Region.Mode} {S:World→Prop} {i:Nat} {oi:Oper} {v:Value} {f:FuncId} {args:Array Value} (hi:ops[i]? = some oi) (hs:Region.noSelect ops=true)
    (hQ:∀ c a w,Q (.panic c) (a.put oi.dst v) w→Q (.panic c) a w) (hc:∀ w,Calls P f args w fun e w'=>e = .returned v∧w'=w) :
    ∀ (fuel:Nat) (listed:Array Bool) (a:Act) (w:World),(∀ j oj,ops[j]? = some oj→j≠i→listed.getD j true=false→(∀ e ∈ oj.after,Region.binds md e=true→e.on≠i)→oi.apart ops oj=true) →
      i ∈ Region.ready md ops listed→Region.wanted oi (yielded ops a.tmps)=true→(∀ w,(execOp a.eval oi).run P w = .ok (.enter f args) w)→S w →
      wpAnyH P md ops Q S fuel (listed.setIfInBounds i true) (a.put oi.dst v) w→wpAnyH P md ops Q S (fuel+1) listed a w:=by
  have hsel:=Region.noSelect_spec hs
  have self : ∀ (fuel : Nat) (listed : Array Bool) (a : Act) (w : World), Region.wanted oi (yielded ops a.tmps) = true → (∀ w, (execOp a.eval oi).run P w = .ok (.enter f args) w) → S w →
      wpAnyH P md ops Q S fuel (listed.setIfInBounds i true) (a.put oi.dst v) w→wpOp P ops Q i (fun a' w'=>S w'∧wpAnyH P md ops Q S fuel (listed.setIfInBounds i true) a' w') a w:=by
    intro fuel listed a w hw hx hS H
    unfold wpOp
    simp only[hi,hw,if_true]
    left
    unfold Oper.wp
    rw[hx w]
    simp only[Oper.upon]
    refine (hc w).mono ?_
    rintro e w' ⟨rfl,hww⟩
    subst hww
    exact⟨hS,H⟩
  intro fuel
  induction fuel with
  | zero=>
    intro listed a w _ hr hw hx hS H
    refine⟨fun h=>(by rw[h] at hr;cases hr),fun j hj=>?_⟩
    by_cases hji:j=i
    · subst hji;exact self 0 listed a w hw hx hS H
    · have h1:=ready_mono hj hji
      rw[H.1] at h1;cases h1
  | succ fuel ih=>
    intro listed a w hfree hr hw hx hS H
    refine⟨fun h=>(by rw[h] at hr;cases hr),fun j hj=>?_⟩
    by_cases hji:j=i
    · subst hji;exact self _ listed a w hw hx hS H
    · obtain⟨hjun,oj,hoj,hall⟩:=mem_ready.1 hj
      have hnot:∀ e ∈ oj.after,Region.binds md e=true→e.on≠i:=by
        intro e he hb heq
        have h1:=hall e he hb
        have h0:=(mem_ready.1 hr).1
        rw[heq] at h1
        rcases Nat.lt_or_ge i listed.size with h' | h'
        · simp[h'] at h0 h1;rw[h0] at h1;cases h1
        · simp[Array.getElem?_eq_none h'] at h1
      have hap:=hfree j oj hoj hji hjun hnot
      have h2:=wpOp_putIf (S:=fun _=>False) hoj hap (fun cs b=>hsel i oi cs b hi) (fun cs b=>hsel j oj cs b hoj) hQ (.inl ⟨hw,fun _ h=>h.elim⟩) (H.2 j (ready_mono hj hji))
      refine wpOp_mono ?_ (zry hoj h2)
      rintro a' w' ⟨⟨u,d,ha⟩,_,hS',hA⟩
      refine⟨hS',ih (listed.setIfInBounds j true) a' w' ?_ (ready_mono hr (Ne.symm hji)) ?_ ?_ hS' ?_⟩
      · intro k ok hk hki hun hno
        refine hfree k ok hk hki ?_ hno
        by_cases hjk:j=k
        · subst hjk;exact hjun
        · rw[getD_set_ne true hjk] at hun;exact hun
      · rw[ha,wanted_put oi _ oj.dst u (Oper.apart_spec hap).2.2];exact hw
      · rw[ha,execOp_put oi (fun cs b=>hsel i oi cs b hi) _ oj.dst u (Oper.apart_spec hap).2.2];exact hx
      · rw[Array.setIfInBounds_comm _ _ hji];exact hA
theorem zrg {P:Program} {ops:Array Oper} {Q:Exit→Act→World→Prop} {md:Region.Mode} {S:World→Prop} {i:Nat} {oi:Oper} {v:Value} {f:FuncId} {args:Array Value} {fuel:Nat} {listed:Array Bool} {a:Act} {w:World} (hi:ops[i]? = some oi) (hs:Region.noSelect ops=true)
  (hf:Region.free md ops listed i=true) (hr:(Region.ready md ops listed).contains i=true) (hQ:∀ c a w,Q (.panic c) (a.put oi.dst v) w→Q (.panic c) a w) (hw:Region.wanted oi (yielded ops a.tmps)=true) (hx:∀ w,(execOp a.eval oi).run P w = .ok (.enter f args) w)
  (hc:∀ w,Calls P f args w fun e w'=>e = .returned v∧w'=w) (hS:S w) (h:wpAnyH P md ops Q S fuel (listed.setIfInBounds i true) (a.put oi.dst v) w):wpAnyH P md ops Q S (fuel+1) listed a w:=
 zrj hi hs hQ hc fuel listed a w (Region.free_spec hi hf) (by simpa using hr) hw hx hS h
theorem qs {P:Program} {ops:Array Oper} {Q:Exit→Act→World→Prop} {md:Region.Mode} {S S':World→Prop} (h:∀ w,S' w→S w):∀ (fuel:Nat) (listed:Array Bool) (a:Act) (w:World),wpAnyH P md ops Q S' fuel listed a w→wpAnyH P md ops Q S fuel listed a w
 | 0,_,_,_,H=>H
 | fuel+1,_,_,_,H=>⟨H.1,fun i hi=>wpOp_mono (fun a' w' h'=>⟨h _ h'.1,qs h fuel _ a' w' h'.2⟩) (H.2 i hi)⟩
end Go.Proofs.YtiganlkabilblaaDoor
namespace Go.Proofs.YtiganlkabilblaaDoor
open Go.RowKit
theorem zqO {s:ByteArray} {l:List UInt8} (hs:s=bs l) (hl:l.length≤2000) {er p:Nat} (h:∀ res,Zo l res→res = .error (er,p)) (w:World) (hg:QD w) :
  Calls Tryd.prog 5 #[.string s] w fun e w'=>e = .returned (.tuple #[.int .i64 er,.int .i64 p])∧Below w.heap.size w w':=by
 subst hs
 refine (zm6 (bs l) w (by rw[zjU];unfold maxLen;omega) hg).mono ?_
 rintro e w' ⟨hb,res,hP,hE⟩
 have:res = .error (er,p):=h res (by simpa [bs] using hP)
 subst this
 exact⟨hE,hb⟩
theorem zrk {s:ByteArray} {l:List UInt8} (hs:s=bs l) (hl:l.length≤2000) (h:∀ res,Zo l res→∃ y,res = .ok y) (w:World) (hg:QD w) :
  Calls Tryd.prog 5 #[.string s] w fun e w'=>e = .returned (.tuple #[.int .i64 0,.int .i64 0])∧Below w.heap.size w w':=by
 subst hs
 refine (zm6 (bs l) w (by rw[zjU];unfold maxLen;omega) hg).mono ?_
 rintro e w' ⟨hb,res,hP,hE⟩
 obtain⟨y,rfl⟩:=h res (by simpa [bs] using hP)
 exact⟨hE,hb⟩
theorem zrx (x y z:Value) (w:World):(Instr.field 24 (.agg #[x,y,z]) 0).run Tryd.prog w = .ok x w:=by kernel_rfl
theorem zrm (w:World) (a:Option Addr) (len cap:Nat) (style sign:Int) (hr:zjX w a len) (hl:len≤maxLen) (hs:i64 style) (hg:i64 sign) (hE:QD w) :
  Calls Tryd.prog 3 #[.slice a len cap,.int .i64 style,.int .i64 sign] w fun e w'=>e = .returned (.bool true)∧Below w.heap.size w w':=by
 have hx:=zl0 w a len cap style hr hl hs
 have HE:Hid (QD w):=hE
 have hp2:=fun w=>zk7 sign 2 w hg (by decide) (by decide)
 have hp5:=fun w=>zk7 sign 5 w hg (by decide) (by decide)
 have hj2:=zh9 sign (n:=2) (by decide)
 have hj5:=zh9 sign (n:=5) (by decide)
 obtain⟨j2,e2⟩:∃ j,j=YY sign 2:=⟨_,rfl⟩
 obtain⟨j5,e5⟩:∃ j,j=YY sign 5:=⟨_,rfl⟩
 rw[← e2] at hp2 hj2
 rw[← e5] at hp5 hj5
 obtain ⟨p, hpp, hpc⟩ : ∃ p : UInt8, (p = 38 ∨ p = 33) ∧ ∀ h : j2 < [Value.string ⟨#[38]⟩, Value.string ⟨#[33]⟩].length, [Value.string ⟨#[38]⟩, Value.string ⟨#[33]⟩][j2]'h = .string (bs [p]) := by
  have:j2=0∨j2=1:=by omega
  rcases this with rfl | rfl
  ·exact⟨38,.inl rfl,fun _=>rfl⟩
  ·exact⟨33,.inr rfl,fun _=>rfl⟩
 obtain ⟨q, hqq, hqc⟩ : ∃ q : UInt8, (q = 42 ∨ q = 63 ∨ q = 43 ∨ q = 47 ∨ q = 38) ∧ ∀ h : j5 < [Value.string ⟨#[42]⟩, Value.string ⟨#[63]⟩, Value.string ⟨#[43]⟩, Value.string ⟨#[47]⟩, Value.string ⟨#[38]⟩].length, [Value.string ⟨#[42]⟩, Value.string ⟨#[63]⟩, Value.string ⟨#[43]⟩, Value.string ⟨#[47]⟩, Value.string ⟨#[38]⟩][j5]'h = .string (bs [q]) := by
  have:j5=0∨j5=1∨j5=2∨j5=3∨j5=4:=by omega
  rcases this with rfl | rfl | rfl | rfl | rfl
  ·exact⟨42,.inl rfl,fun _=>rfl⟩
  ·exact⟨63,.inr (.inl rfl),fun _=>rfl⟩
  ·exact⟨43,.inr (.inr (.inl rfl)),fun _=>rfl⟩
  ·exact⟨47,.inr (.inr (.inr (.inl rfl))),fun _=>rfl⟩
  ·exact⟨38,.inr (.inr (.inr (.inr rfl))),fun _=>rfl⟩
 have HPP:=zjV hpp
 have HQQ:=zjV hqq
 clear hr hs hg hE e2 e5 hpp hqq
 go_enter Tryd.func3,Tryd.ntmps3
 go_wp2_with fail
 refine hx.mono ?_
 rintro _ w1 ⟨⟨x,ee,dd⟩,rfl,hG,hd4,hlx,hb1⟩
 simp only[] at hG hd4 hlx
 have xs:=zjU x
 have HG:=zjV hG
 have ca:∀ w',QD w'→Calls Tryd.prog 5 #[.string (⟨#[115,32,60,45,32,40,40]⟩++bs x++⟨#[41]⟩)] w' fun e w''=>e = .returned (.tuple #[.int .i64 2,.int .i64 ↑(x.length+8)])∧Below w'.heap.size w' w'':=
  fun w' h'=>zqO (l:=hdB++(40::brk [] x)) (by rw[zf,zf];simp[brk]) (by simp[zjN];omega) (fun res hP=>Gx_a HG.out hd4 (by omega) hP) w' h'
 have HL1:=zjV (HE.out.below hb1)
 have HB1:=zjV hb1
 have hz1:=hb1.size
 clear hx hG hb1
 simp only[mdV]
 have hfd:=zrx
 go_wp2_with fail
 refine (ca _ HL1.out).mono ?_
 rintro _ w2 ⟨rfl,hb2⟩
 have HL2:=zjV (HL1.out.below hb2)
 have hz2:=hb2.size
 have HB2:=zjV (HB1.out.trans (hb2.mono hz1))
 have cb:∀ w',QD w'→Calls Tryd.prog 5 #[.string (⟨#[115,32,60,45,32,40]⟩++bs x++⟨#[41,32,41]⟩)] w' fun e w''=>e = .returned (.tuple #[.int .i64 2,.int .i64 ↑(x.length+8)])∧Below w'.heap.size w' w'':=
  fun w' h'=>zqO (l:=hdB++(brk [] x++[32,41])) (by rw[zf,zf];simp[brk]) (by simp[zjN];omega) (fun res hP=>Gx_b HG.out hd4 (by omega) hP) w' h'
 clear ca hb2 HL1 HB1
 go_wp2_with fail
 refine (cb _ HL2.out).mono ?_
 rintro _ w3 ⟨rfl,hb3⟩
 have HL3:=zjV (HL2.out.below hb3)
 have hz3:=hb3.size
 have HB3:=zjV (HB2.out.trans (hb3.mono (by omega)))
 clear cb hb3 HL2 HB2
 go_wp2_with fail
 have sp:(bs [p]).size=1:=rfl
 have sq:(bs [q]).size=1:=rfl
 go_cut [14] from 19 to 53 (fun s14 wx=>s14 = .string (bs (hdB++(brk [] x++[32,p,q])))∧Below w3.heap.size w3 wx)
 case first=>
  clear HG HL3 HB3 HPP HQQ HE hd4 hfd hz1 hz2 hz3
  have cellA:((w3.alloc (.cells #[.string ⟨#[38]⟩,.string ⟨#[33]⟩] 9)).drew).cell? ⟨w3.heap.size,j2,none⟩=some (.string (bs [p])):=by
   show (w3.alloc (.cells #[.string ⟨#[38]⟩,.string ⟨#[33]⟩] 9)).cell? _=_
   rw[z8 (zk w3 _),← hpc (by simpa using hj2)]
   simp
  have cellA2a:(((w3.alloc (.cells #[.string ⟨#[38]⟩,.string ⟨#[33]⟩] 9)).alloc (.cells #[.string ⟨#[42]⟩,.string ⟨#[63]⟩,.string ⟨#[43]⟩,.string ⟨#[47]⟩,.string ⟨#[38]⟩] 9)).drew).cell? ⟨w3.heap.size,j2,none⟩=some (.string (bs [p])):=by
   show ((w3.alloc (.cells #[.string ⟨#[38]⟩,.string ⟨#[33]⟩] 9)).alloc (.cells #[.string ⟨#[42]⟩,.string ⟨#[63]⟩,.string ⟨#[43]⟩,.string ⟨#[47]⟩,.string ⟨#[38]⟩] 9)).cell? _=_
   rw[z8 ((zm _ _ (by simp)).trans (zk w3 _)),← hpc (by simpa using hj2)]
   simp
  have cellA2b:(((w3.alloc (.cells #[.string ⟨#[38]⟩,.string ⟨#[33]⟩] 9)).alloc (.cells #[.string ⟨#[42]⟩,.string ⟨#[63]⟩,.string ⟨#[43]⟩,.string ⟨#[47]⟩,.string ⟨#[38]⟩] 9)).drew).cell? ⟨w3.heap.size+1,j5,none⟩=some (.string (bs [q])):=by
   show ((w3.alloc (.cells #[.string ⟨#[38]⟩,.string ⟨#[33]⟩] 9)).alloc (.cells #[.string ⟨#[42]⟩,.string ⟨#[63]⟩,.string ⟨#[43]⟩,.string ⟨#[47]⟩,.string ⟨#[38]⟩] 9)).cell? _=_
   rw[z8 (qb _ _ _ (by simp)),← hqc (by simpa using hj5)]
   simp
  have cellB:((w3.alloc (.cells #[.string ⟨#[42]⟩,.string ⟨#[63]⟩,.string ⟨#[43]⟩,.string ⟨#[47]⟩,.string ⟨#[38]⟩] 9)).drew).cell? ⟨w3.heap.size,j5,none⟩=some (.string (bs [q])):=by
   show (w3.alloc (.cells #[.string ⟨#[42]⟩,.string ⟨#[63]⟩,.string ⟨#[43]⟩,.string ⟨#[47]⟩,.string ⟨#[38]⟩] 9)).cell? _=_
   rw[z8 (zk w3 _),← hqc (by simpa using hj5)]
   simp
  have cellB2a:(((w3.alloc (.cells #[.string ⟨#[42]⟩,.string ⟨#[63]⟩,.string ⟨#[43]⟩,.string ⟨#[47]⟩,.string ⟨#[38]⟩] 9)).alloc (.cells #[.string ⟨#[38]⟩,.string ⟨#[33]⟩] 9)).drew).cell? ⟨w3.heap.size,j5,none⟩=some (.string (bs [q])):=by
   show ((w3.alloc (.cells #[.string ⟨#[42]⟩,.string ⟨#[63]⟩,.string ⟨#[43]⟩,.string ⟨#[47]⟩,.string ⟨#[38]⟩] 9)).alloc (.cells #[.string ⟨#[38]⟩,.string ⟨#[33]⟩] 9)).cell? _=_
   rw[z8 ((zm _ _ (by simp)).trans (zk w3 _)),← hqc (by simpa using hj5)]
   simp
  have cellB2b:(((w3.alloc (.cells #[.string ⟨#[42]⟩,.string ⟨#[63]⟩,.string ⟨#[43]⟩,.string ⟨#[47]⟩,.string ⟨#[38]⟩] 9)).alloc (.cells #[.string ⟨#[38]⟩,.string ⟨#[33]⟩] 9)).drew).cell? ⟨w3.heap.size+1,j2,none⟩=some (.string (bs [p])):=by
   show ((w3.alloc (.cells #[.string ⟨#[42]⟩,.string ⟨#[63]⟩,.string ⟨#[43]⟩,.string ⟨#[47]⟩,.string ⟨#[38]⟩] 9)).alloc (.cells #[.string ⟨#[38]⟩,.string ⟨#[33]⟩] 9)).cell? _=_
   rw[z8 (qb _ _ _ (by simp)),← hpc (by simpa using hj2)]
   simp
  refine wp_region_held_drew (S:=fun _=>True) (by kernel_rfl) trivial (fun hHeld=>?_)
  refine wpAnyH_take (i:=0) (oi:={ dst:=some 39,op:=_,type:=_,pos:=_,after:=_,guard:=none }) (v:=.string (bs x)) rfl (by kernel_rfl) (by kernel_rfl) (by kernel_rfl) (fun _ _ _ h=>h) (Or.inl ⟨by rfl,fun w hSw=>by (try dsimp only at hSw);(go_simp<;>omega)⟩) hHeld ?_
  simp only[Act.put,List.setIfInBounds_toArray,List.set_cons_zero,List.set_cons_succ]
  refine wpAnyH_take (i:=1) (oi:={ dst:=some 40,op:=_,type:=_,pos:=_,after:=_,guard:=none }) (v:=.string (⟨#[115,32,60,45,32,40]⟩++bs x)) rfl (by kernel_rfl) (by kernel_rfl) (by kernel_rfl) (fun _ _ _ h=>h) (Or.inl ⟨by rfl,fun w hSw=>by (try dsimp only at hSw);(go_simp<;>omega)⟩) hHeld ?_
  simp only[Act.put,List.setIfInBounds_toArray,List.set_cons_zero,List.set_cons_succ]
  refine wpAnyH_take (i:=2) (oi:={ dst:=some 41,op:=_,type:=_,pos:=_,after:=_,guard:=none }) (v:=.string (⟨#[115,32,60,45,32,40]⟩++bs x++⟨#[41,32]⟩)) rfl (by kernel_rfl) (by kernel_rfl) (by kernel_rfl) (fun _ _ _ h=>h) (Or.inl ⟨by rfl,fun w hSw=>by (try dsimp only at hSw);(go_simp<;>omega)⟩) hHeld ?_
  simp only[Act.put,List.setIfInBounds_toArray,List.set_cons_zero,List.set_cons_succ]
  refine wpAnyH_take (i:=4) (oi:={ dst:=some 43,op:=_,type:=_,pos:=_,after:=_,guard:=none }) (v:=.int .i64 sign) rfl (by kernel_rfl) (by kernel_rfl) (by kernel_rfl) (fun _ _ _ h=>h) (Or.inl ⟨by rfl,fun w hSw=>by (try dsimp only at hSw);(go_simp<;>omega)⟩) hHeld ?_
  simp only[Act.put,List.setIfInBounds_toArray,List.set_cons_zero,List.set_cons_succ]
  refine zrg (i:=5) (oi:={ dst:=some 44,op:=_,type:=_,pos:=_,after:=_,guard:=none }) (v:=.int .i64 ↑j2) (f:=6) (args:=#[.int .i64 sign,.int .i64 2]) rfl (by kernel_rfl) (by kernel_rfl) (by kernel_rfl) (fun _ _ _ h=>h) (by rfl) (fun w=>by go_simp) hp2 hHeld ?_
  simp only[Act.put,List.setIfInBounds_toArray,List.set_cons_zero,List.set_cons_succ]
  refine wpAnyH_take (i:=10) (oi:={ dst:=some 49,op:=_,type:=_,pos:=_,after:=_,guard:=none }) (v:=.int .i64 sign) rfl (by kernel_rfl) (by kernel_rfl) (by kernel_rfl) (fun _ _ _ h=>h) (Or.inl ⟨by rfl,fun w hSw=>by (try dsimp only at hSw);(go_simp<;>omega)⟩) hHeld ?_
  simp only[Act.put,List.setIfInBounds_toArray,List.set_cons_zero,List.set_cons_succ]
  refine zrg (i:=11) (oi:={ dst:=some 50,op:=_,type:=_,pos:=_,after:=_,guard:=none }) (v:=.int .i64 ↑j5) (f:=6) (args:=#[.int .i64 sign,.int .i64 5]) rfl (by kernel_rfl) (by kernel_rfl) (by kernel_rfl) (fun _ _ _ h=>h) (by rfl) (fun w=>by go_simp) hp5 hHeld ?_
  simp only[Act.put,List.setIfInBounds_toArray,List.set_cons_zero,List.set_cons_succ]
  refine wpAnyH_ready (rs:=[3,9]) (by kernel_rfl) (by simp) ?_
  refine AllReadyH.cons (o:={ dst:=some 42,op:=_,type:=_,pos:=_,after:=_,guard:=none }) rfl (fun K hK=>?_) (AllReadyH.cons (o:={ dst:=some 48,op:=_,type:=_,pos:=_,after:=_,guard:=none }) rfl (fun K hK=>?_) AllReadyH.nil)
  ·go_simp
   refine hK.out _ _ trivial (fun hHeld=>?_)
   clear hK K hHeld
   refine qs (S':=fun w'=>w'.cell? ⟨w3.heap.size,j2,none⟩=some (.string (bs [p]))) (fun _ _=>trivial) _ _ _ _ ?_
   have hHeld:((w3.alloc (.cells #[.string ⟨#[38]⟩,.string ⟨#[33]⟩] 9)).drew).cell? ⟨w3.heap.size,j2,none⟩=some (.string (bs [p])):=cellA
   refine wpAnyH_take (i:=6) (oi:={ dst:=some 45,op:=_,type:=_,pos:=_,after:=_,guard:=none }) (v:=.pointer (some ⟨w3.heap.size,j2,none⟩)) rfl (by kernel_rfl) (by kernel_rfl) (by kernel_rfl) (fun _ _ _ h=>h) (Or.inl ⟨by rfl,fun w hSw=>by (try dsimp only at hSw);(go_simp<;>omega)⟩) hHeld ?_
   simp only[Act.put,List.setIfInBounds_toArray,List.set_cons_zero,List.set_cons_succ]
   refine wpAnyH_take (i:=7) (oi:={ dst:=some 46,op:=_,type:=_,pos:=_,after:=_,guard:=none }) (v:=.string (bs [p])) rfl (by kernel_rfl) (by kernel_rfl) (by kernel_rfl) (fun _ _ _ h=>h) (Or.inl ⟨by rfl,fun w hSw=>by (try dsimp only at hSw);(go_simp<;>omega)⟩) hHeld ?_
   simp only[Act.put,List.setIfInBounds_toArray,List.set_cons_zero,List.set_cons_succ]
   refine wpAnyH_take (i:=8) (oi:={ dst:=some 47,op:=_,type:=_,pos:=_,after:=_,guard:=none }) (v:=.string (⟨#[115,32,60,45,32,40]⟩++bs x++⟨#[41,32]⟩++bs [p])) rfl (by kernel_rfl) (by kernel_rfl) (by kernel_rfl) (fun _ _ _ h=>h) (Or.inl ⟨by rfl,fun w hSw=>by (try dsimp only at hSw);(go_simp<;>omega)⟩) hHeld ?_
   simp only[Act.put,List.setIfInBounds_toArray,List.set_cons_zero,List.set_cons_succ]
   refine wpAnyH_ready (rs:=[9]) (by kernel_rfl) (by simp) ?_
   refine AllReadyH.cons (o:={ dst:=some 48,op:=_,type:=_,pos:=_,after:=_,guard:=none }) rfl (fun K hK=>?_) AllReadyH.nil
   go_simp
   refine hK.out _ _ cellA2a (fun hHeld=>?_)
   clear hK K hHeld
   refine qs (S':=fun w'=>w'.cell? ⟨w3.heap.size,j2,none⟩=some (.string (bs [p]))∧w'.cell? ⟨w3.heap.size+1,j5,none⟩=some (.string (bs [q]))) (fun _ h=>h.1) _ _ _ _ ?_
   have hHeld:=And.intro cellA2a cellA2b
   refine wpAnyH_take (i:=12) (oi:={ dst:=some 51,op:=_,type:=_,pos:=_,after:=_,guard:=none }) (v:=.pointer (some ⟨w3.heap.size+1,j5,none⟩)) rfl (by kernel_rfl) (by kernel_rfl) (by kernel_rfl) (fun _ _ _ h=>h) (Or.inl ⟨by rfl,fun w hSw=>by (try dsimp only at hSw);(go_simp<;>omega)⟩) hHeld ?_
   simp only[Act.put,List.setIfInBounds_toArray,List.set_cons_zero,List.set_cons_succ]
   refine wpAnyH_take (i:=13) (oi:={ dst:=some 52,op:=_,type:=_,pos:=_,after:=_,guard:=none }) (v:=.string (bs [q])) rfl (by kernel_rfl) (by kernel_rfl) (by kernel_rfl) (fun _ _ _ h=>h) (Or.inl ⟨by rfl,fun w hSw=>by (try dsimp only at hSw);(go_simp<;>omega)⟩) hHeld ?_
   simp only[Act.put,List.setIfInBounds_toArray,List.set_cons_zero,List.set_cons_succ]
   refine wpAnyH_take (i:=14) (oi:={ dst:=some 53,op:=_,type:=_,pos:=_,after:=_,guard:=none }) (v:=.string (⟨#[115,32,60,45,32,40]⟩++bs x++⟨#[41,32]⟩++bs [p]++bs [q])) rfl (by kernel_rfl) (by kernel_rfl) (by kernel_rfl) (fun _ _ _ h=>h) (Or.inl ⟨by rfl,fun w hSw=>by (try dsimp only at hSw);(go_simp<;>omega)⟩) hHeld ?_
   simp only[Act.put,List.setIfInBounds_toArray,List.set_cons_zero,List.set_cons_succ]
   refine wpAnyH_take (i:=15) (oi:={ dst:=some 14,op:=_,type:=_,pos:=_,after:=_,guard:=none }) (v:=.string (⟨#[115,32,60,45,32,40]⟩++bs x++⟨#[41,32]⟩++bs [p]++bs [q])) rfl (by kernel_rfl) (by kernel_rfl) (by kernel_rfl) (fun _ _ _ h=>h) (Or.inl ⟨by rfl,fun w hSw=>by (try dsimp only at hSw);(go_simp<;>omega)⟩) hHeld ?_
   simp only[Act.put,List.setIfInBounds_toArray,List.set_cons_zero,List.set_cons_succ]
   refine wpAnyH_done (by kernel_rfl) ?_ _
   (try go_wp2_with fail)
   go_meet
   refine⟨by simp[zf,brk],?_⟩
   exact ((zc w3 _).alloc (by simp) _).drew
  ·go_simp
   refine hK.out _ _ trivial (fun hHeld=>?_)
   clear hK K hHeld
   refine qs (S':=fun w'=>w'.cell? ⟨w3.heap.size,j5,none⟩=some (.string (bs [q]))) (fun _ _=>trivial) _ _ _ _ ?_
   have hHeld:((w3.alloc (.cells #[.string ⟨#[42]⟩,.string ⟨#[63]⟩,.string ⟨#[43]⟩,.string ⟨#[47]⟩,.string ⟨#[38]⟩] 9)).drew).cell? ⟨w3.heap.size,j5,none⟩=some (.string (bs [q])):=cellB
   refine wpAnyH_take (i:=12) (oi:={ dst:=some 51,op:=_,type:=_,pos:=_,after:=_,guard:=none }) (v:=.pointer (some ⟨w3.heap.size,j5,none⟩)) rfl (by kernel_rfl) (by kernel_rfl) (by kernel_rfl) (fun _ _ _ h=>h) (Or.inl ⟨by rfl,fun w hSw=>by (try dsimp only at hSw);(go_simp<;>omega)⟩) hHeld ?_
   simp only[Act.put,List.setIfInBounds_toArray,List.set_cons_zero,List.set_cons_succ]
   refine wpAnyH_take (i:=13) (oi:={ dst:=some 52,op:=_,type:=_,pos:=_,after:=_,guard:=none }) (v:=.string (bs [q])) rfl (by kernel_rfl) (by kernel_rfl) (by kernel_rfl) (fun _ _ _ h=>h) (Or.inl ⟨by rfl,fun w hSw=>by (try dsimp only at hSw);(go_simp<;>omega)⟩) hHeld ?_
   simp only[Act.put,List.setIfInBounds_toArray,List.set_cons_zero,List.set_cons_succ]
   refine wpAnyH_ready (rs:=[3]) (by kernel_rfl) (by simp) ?_
   refine AllReadyH.cons (o:={ dst:=some 42,op:=_,type:=_,pos:=_,after:=_,guard:=none }) rfl (fun K hK=>?_) AllReadyH.nil
   go_simp
   refine hK.out _ _ cellB2a (fun hHeld=>?_)
   clear hK K hHeld
   refine qs (S':=fun w'=>w'.cell? ⟨w3.heap.size,j5,none⟩=some (.string (bs [q]))∧w'.cell? ⟨w3.heap.size+1,j2,none⟩=some (.string (bs [p]))) (fun _ h=>h.1) _ _ _ _ ?_
   have hHeld:=And.intro cellB2a cellB2b
   refine wpAnyH_take (i:=6) (oi:={ dst:=some 45,op:=_,type:=_,pos:=_,after:=_,guard:=none }) (v:=.pointer (some ⟨w3.heap.size+1,j2,none⟩)) rfl (by kernel_rfl) (by kernel_rfl) (by kernel_rfl) (fun _ _ _ h=>h) (Or.inl ⟨by rfl,fun w hSw=>by (try dsimp only at hSw);(go_simp<;>omega)⟩) hHeld ?_
   simp only[Act.put,List.setIfInBounds_toArray,List.set_cons_zero,List.set_cons_succ]
   refine wpAnyH_take (i:=7) (oi:={ dst:=some 46,op:=_,type:=_,pos:=_,after:=_,guard:=none }) (v:=.string (bs [p])) rfl (by kernel_rfl) (by kernel_rfl) (by kernel_rfl) (fun _ _ _ h=>h) (Or.inl ⟨by rfl,fun w hSw=>by (try dsimp only at hSw);(go_simp<;>omega)⟩) hHeld ?_
   simp only[Act.put,List.setIfInBounds_toArray,List.set_cons_zero,List.set_cons_succ]
   refine wpAnyH_take (i:=8) (oi:={ dst:=some 47,op:=_,type:=_,pos:=_,after:=_,guard:=none }) (v:=.string (⟨#[115,32,60,45,32,40]⟩++bs x++⟨#[41,32]⟩++bs [p])) rfl (by kernel_rfl) (by kernel_rfl) (by kernel_rfl) (fun _ _ _ h=>h) (Or.inl ⟨by rfl,fun w hSw=>by (try dsimp only at hSw);(go_simp<;>omega)⟩) hHeld ?_
   simp only[Act.put,List.setIfInBounds_toArray,List.set_cons_zero,List.set_cons_succ]
   refine wpAnyH_take (i:=14) (oi:={ dst:=some 53,op:=_,type:=_,pos:=_,after:=_,guard:=none }) (v:=.string (⟨#[115,32,60,45,32,40]⟩++bs x++⟨#[41,32]⟩++bs [p]++bs [q])) rfl (by kernel_rfl) (by kernel_rfl) (by kernel_rfl) (fun _ _ _ h=>h) (Or.inl ⟨by rfl,fun w hSw=>by (try dsimp only at hSw);(go_simp<;>omega)⟩) hHeld ?_
   simp only[Act.put,List.setIfInBounds_toArray,List.set_cons_zero,List.set_cons_succ]
   refine wpAnyH_take (i:=15) (oi:={ dst:=some 14,op:=_,type:=_,pos:=_,after:=_,guard:=none }) (v:=.string (⟨#[115,32,60,45,32,40]⟩++bs x++⟨#[41,32]⟩++bs [p]++bs [q])) rfl (by kernel_rfl) (by kernel_rfl) (by kernel_rfl) (fun _ _ _ h=>h) (Or.inl ⟨by rfl,fun w hSw=>by (try dsimp only at hSw);(go_simp<;>omega)⟩) hHeld ?_
   simp only[Act.put,List.setIfInBounds_toArray,List.set_cons_zero,List.set_cons_succ]
   refine wpAnyH_done (by kernel_rfl) ?_ _
   (try go_wp2_with fail)
   go_meet
   refine⟨by simp[zf,brk],?_⟩
   exact ((zc w3 _).alloc (by simp) _).drew
 case rest=>
  obtain⟨rfl,hb4⟩:=hcut
  have HL4:=zjV (HL3.out.below hb4)
  have hz4:=hb4.size
  have HB4:=zjV (HB3.out.trans (hb4.mono (by omega)))
  have cc:∀ w',QD w'→Calls Tryd.prog 5 #[.string (bs (hdB++(brk [] x++[32,p,q])))] w' fun e w''=>e = .returned (.tuple #[.int .i64 2,.int .i64 ↑(x.length+9)])∧Below w'.heap.size w' w'':=
   fun w' h'=>zqO rfl (by simp[zjN];omega) (fun res hP=>Gx_c HG.out hd4 (by omega) HPP.out HQQ.out hP) w' h'
  have cd:∀ w',QD w'→Calls Tryd.prog 5 #[.string (⟨#[115,32,60,45,32,40]⟩++bs x++⟨#[41]⟩++⟨#[32,110,117,109,32,60,45,32,91,48,45,57,93,32,110,117,109,63,32,119,111,114,100,32,60,45,32,39,97,39,32,119,111,114,100,32,39,98,39,32,47,32,39,99,39,32,39,97,39,63]⟩)] w' fun e w''=>e = .returned (.tuple #[.int .i64 0,.int .i64 0])∧Below w'.heap.size w' w'':=
   fun w' h'=>zrk (l:=hdB++(brk [] x++zjP)) (by rw[zf,zf,zf];simp[brk]) (by simp[zjN];omega) (fun res hP=>Gx_d HG.out hd4 (by omega) hP) w' h'
  have sc:(bs (hdB++(brk [] x++[32,p,q]))).size=x.length+10:=by rw[zjU];simp[zjN]
  have hkr:=zl6
  generalize bs (hdB++(brk [] x++[32,p,q]))=sC at cc sc ⊢
  clear hb4 HL3 HB3 hp2 hp5 hpc hqc
  go_wp2_with fail
  refine (cc _ HL4.out).mono ?_
  rintro _ w5 ⟨rfl,hb5⟩
  have HL5:=zjV (HL4.out.below hb5)
  have hz5:=hb5.size
  have HB5:=zjV (HB4.out.trans (hb5.mono (by omega)))
  clear cc hb5 HL4 HB4
  go_wp2_with (first | (go_at_call 7;refine (hkr _).mono ?_;rintro _ w' ⟨rfl,hw⟩;replace hw:=hw.symm;subst hw))
  refine (cd _ HL5.out).mono ?_
  rintro _ w6 ⟨rfl,hb6⟩
  have HB6:=zjV (HB5.out.trans (hb6.mono (by omega)))
  clear cd hb6 HL5 HB5 hkr
  go_wp2_with fail
  go_ret
  exact⟨rfl,HB6.out⟩
end Go.Proofs.YtiganlkabilblaaDoor
namespace Go.Proofs.YtiganlkabilblaaDoor
open Go.ChangeShapes Go.WideShapes Go.ChangeAt Go.RowKit
theorem zqz:ownKnob Tryd.prog.godebug=none:=by kernel_rfl
theorem zrs:laidOutB Tryd.prog=true:=by kernel_rfl
theorem zqx:Tryd.prog.globalNamed "errors.errorType" = some 0:=by kernel_rfl
theorem zqA:(Tryd.prog.cutTypes.find? (·.1 == "internal/reflectlite.rtype")).map (·.2)=some 110:=by kernel_rfl
theorem zqB:Tryd.prog.types.size=190:=by kernel_rfl
theorem zqy:((List.range 190).filter fun t=>Tryd.prog.rowNamed t [101,114,114,111,114])=[44]:=by kernel_rfl
abbrev UpE:List (String × DataW Unit):=[("errors.errorType", Rows.laid_errors_errorType)]
theorem zqC {W:World} (h:laidMetH Tryd.prog UpE W):QD W:=by
 have h':laidMet Tryd.prog [] W∧handlesMet Tryd.prog UpE W:=h
 obtain⟨name,u,ty,e1,e2,e3,e4,e5⟩:=h'.2 _ (List.mem_singleton.2 rfl)
 have en:name=[101,114,114,111,114]:=(Option.some.inj e1).symm
 subst en
 obtain rfl:=Option.some.inj (zqA.symm.trans e2)
 have hm:ty ∈ (List.range 190).filter fun t=>Tryd.prog.rowNamed t [101,114,114,111,114]:=List.mem_filter.2 ⟨List.mem_range.2 (by rw[← zqB];exact e3),e4⟩
 rw[zqy] at hm
 obtain rfl:=List.mem_singleton.1 hm
 have hh:typeHandle Tryd.prog 44 = .pointer (some ⟨2,44,none⟩):=by kernel_rfl
 rw[hh] at e5
 unfold QD
 simpa using World.var?_cell zqx e5 0
theorem zrt (os:Os) (started:os.Started) (H:Type) (enc:TypeId × Value→H) :
    ReturnsInHanded {} Tryd.checked os 3 .any (fun w args=>(Rows.endsSpec.pre enc Tryd.prog Tryd.f3 [] false w args∧laidMetH Tryd.prog UpE w)∧sizedMet enc Tryd.prog Tryd.f3 (OpenSpec.ofChange Rows.endsSpec) false w args)
      (Rows.endsSpec.post enc Tryd.prog Tryd.f3 false true false false):=by
  refine returnsInHanded_of_change_and (C:=Tryd.checked) (X:=fun w _=>laidMetH Tryd.prog UpE w) (fun _ _ _ hh h=>h.of_heap hh) zqz started (by kernel_rfl) Tryd.func3
    (ChangeSpec.witness_at (enc:=enc) (C:=Tryd.checked) (os:=os) (X:=fun w _=>laidMetH Tryd.prog UpE w) false
      { World.holding Tryd.prog os ⟨#[], #[], []⟩ with heap := (World.holding Tryd.prog os ⟨#[], #[], []⟩).heap.modify 0 fun
          | .cells _ t frozen=>.cells #[.iface 110 (.agg #[.pointer (some ⟨2,44,none⟩)])] t frozen
          | o=>o }
      #[.slice none 0 0,.int .i64 0,.int .i64 0] 8 rfl (by kernel_rfl) (by kernel_rfl) (by kernel_rfl) (by kernel_rfl) (by kernel_rfl) (laidMetH_of_parts (laidMet_nil _ _) (by kernel_rfl))) ?_
  intro W base args ds gs before hval0 hW _ _ hL _
  have hval:∀ (j:Nat) t v,Tryd.f3.params[j]? = some t→args[j]? = some v→Value.okWide Tryd.prog W .any base t v:=hval0
  have hW':=hW
  obtain⟨p,q,hA0,hV0,rfl,hfz,hnd⟩:=hW
  have hA:DataW.TrodAll enc Tryd.prog W 0 (fun _=>true) true Tryd.f3.params.toList args.toList ds p:=hA0
  have hV:DataW.TrodVars enc Tryd.prog W (fun _=>true) [] gs q:=hV0
  rw[Tryd.params3] at hA hval
  obtain⟨v0,vs0,d0,ds0,p0,q0,hargs,rfl,rfl,h0,r0⟩:=trodAll_cons hA
  obtain⟨v1,vs1,d1,ds1,p1,q1,rfl,rfl,rfl,h1,r1⟩:=trodAll_cons r0
  obtain⟨v2,vs2,d2,ds2,p2,q2,rfl,rfl,rfl,h2,r2⟩:=trodAll_cons r1
  obtain⟨rfl,rfl,rfl⟩:=trodAll_nil r2
  obtain rfl:args = #[v0,v1,v2]:=by cases args;simp_all
  obtain⟨rfl,rfl⟩:gs=[]∧q=[]:=by
    cases gs with
    | nil=>exact⟨rfl,hV⟩
    | cons g r=>exact absurd hV (by intro h;cases h)
  obtain⟨a0,len0,cap0,rfl⟩:=okWide_slice Tryd.underlying22 (hval 0 22 v0 rfl rfl)
  have k0:=h0
  have lt0:∀ x ∈ p0,x.block<W.heap.size:=by obtain⟨m,hm⟩:=k0;exact DataW.trod_lt m _ _ _ hm
  have hlen:zjX W a0 len0∧len0≤maxLen:=by
    obtain⟨fuel,hf⟩:=h0
    rcases open_ints Tryd.underlying22 Tryd.underlying3 (by kernel_rfl) hf with ⟨hcs,_⟩ | ⟨x,l,c,zs,hcs,_,hl,hm,hz,_,hcell,hwz⟩
    · simp[Value.cells] at hcs
      obtain⟨rfl,rfl,rfl⟩:=hcs
      exact⟨fun k hk=>by omega,by decide⟩
    · simp[Value.cells] at hcs
      obtain⟨rfl,rfl,rfl⟩:=hcs
      have hzl:zs.length=cap0:=by simpa using hz
      refine⟨fun k hk=>⟨x,zs.getD k 0,rfl,?_,hcell k (by omega),?_⟩,by omega⟩
      · exact World.block_lt_of_cell? W _ (hcell k (by omega))
      · have hw:=hwz (zs.getD k 0) (by rw[List.getD_eq_getElem?_getD,List.getElem?_eq_getElem (by omega)];exact List.getElem_mem _)
        have hw':IntKind.i64.min≤zs.getD k 0∧zs.getD k 0≤IntKind.i64.max:=by simpa [Lit.wf] using hw
        have e1:IntKind.i64.min = -9223372036854775808:=by decide
        have e2:IntKind.i64.max=9223372036854775807:=by decide
        constructor<;>omega
  obtain⟨a1,rfl,rfl,rfl,w1⟩:=open_int Tryd.underlying3 (hval 1 3 v1 rfl rfl) h1
  obtain⟨a2,rfl,rfl,rfl,w2⟩:=open_int Tryd.underlying3 (hval 2 3 v2 rfl rfl) h2
  have hI:∀ n:Int,(Lit.int .i64 n).wf=true→i64 n:=by
    intro n hn
    have hw':IntKind.i64.min≤n∧n≤IntKind.i64.max:=by simpa [Lit.wf] using hn
    have e1:IntKind.i64.min = -9223372036854775808:=by decide
    have e2:IntKind.i64.max=9223372036854775807:=by decide
    constructor<;>omega
  refine (zrm W a0 len0 cap0 a1 a2 hlen.1 hlen.2 (hI _ w1) (hI _ w2) (zqC hL)).mono fun e W' ⟨he,bel⟩=>?_
  subst he
  exact⟨_,rfl,_,_,_,[],_,[],hW',trodAll_mk1 (shut_bool Tryd.underlying4 _),(trodAll_cons_mk (Below.trod zrs (by kernel_rfl) (of_decide_eq_true (by kernel_rfl)) k0 bel lt0) (trodAll_cons_mk (shut_int Tryd.underlying3 w1) (trodAll_cons_mk (shut_int Tryd.underlying3 w2) trodAll_mk0))),rfl,bel.frame _,fun h=>by cases h⟩
theorem zrr:Rows.EndsSaid:=
 OpenClaim.holds_of_wide 3 Tryd.f3 rfl rfl rfl rfl rfl rfl rfl ⟨rfl,rfl,rfl,rfl,rfl⟩ rfl rfl rfl rfl rfl (by kernel_rfl) Tryd.func3 (by kernel_rfl)
  (of_decide_eq_true (by kernel_rfl)) (by unfold Func.isWrapper;first | (rw[if_pos (by decide +kernel)];kernel_rfl) | (rw[if_neg (by decide +kernel)];exact⟨rfl,rfl⟩))
  (fun os started H enc _=>zrt os started H enc)
end Go.Proofs.YtiganlkabilblaaDoor
