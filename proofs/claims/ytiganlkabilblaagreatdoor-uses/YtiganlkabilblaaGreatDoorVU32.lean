import Derived.Test.YtiganlkabilblaaGreatDoorVU31
import Derived.Test.YtiganlkabilblaaGreatDoorVU23
import Derived.Deep.RegionHeldLaw
import Derived.Deep.RegionLaw
import Derived.Deep.DrawnRows
import Derived.Deep.AppendLies
import Derived.Deep.CutRange
set_option linter.all false
set_option maxHeartbeats 64000000
set_option maxRecDepth 100000
namespace Go.Proofs.YtiganlkabilblaaGreatDoor
open Go.RowKit
attribute [local go_sem ↓] Go.wp_at_zero Go.wp_at_succ
theorem Tryz.infoMade:(Tryz.prog.info? 43).map (fun i=>(i.zero,i.size,i.bytes))=some (some (.agg #[.string ⟨#[]⟩,.bool false,.int .i64 0]),3,32):=by kernel_rfl
abbrev Md:=List UInt8 × Bool × Nat
def mdC (m:Md):List Value:=[.string (bs m.1),.bool m.2.1,.int .i64 m.2.2]
theorem zjO (ms:List Md):(ms.flatMap mdC).length=ms.length * 3:=by
 induction ms with
 | nil=>rfl
 | cons x xs ih=>simp[mdC,ih] at *;omega
def tot (ms:List Md):Nat:=(ms.map (·.1.length)).sum
theorem zjQ (a b:List Md):tot (a++b)=tot a+tot b:=by simp[tot]
theorem zjR (m:Md):tot [m]=m.1.length:=by simp[tot]
def zjX (w:World) (a:Option Addr) (len:Nat):Prop:=∀ k,k<len→∃ x c,a=some x∧(x.add k).block<w.heap.size∧w.cell? (x.add k)=some (.int .i64 c)∧i64 c
structure zL (w:World) (k:Nat) (ms:List Md) (v:Value) (wr:World):Prop where
 own:wr.ownsRow (w.heap.size+1) 43 3 v ms.length (ms.flatMap mdC)
 below:Below w.heap.size w wr
 res:wr.heap[w.heap.size]? = some (mdO [] false 0)
 size:w.heap.size+1≤wr.heap.size
 pos : 0<ms.length
 cnt:ms.length≤k+1
 top:k≤24
 good:∀ m ∈ ms,Gx m.1 m.2.1 m.2.2∧m.2.2≤4
 tot:tot ms≤3+29 * k
theorem zL.last {w:World} {k:Nat} {ms:List Md} {v:Value} {wr:World} (h:zL w k ms v wr) :
  ∃ ini m g cp,ms=ini++[m]∧v = .slice (some ⟨g,0,none⟩) (ini.length+1) cp∧w.heap.size<g∧g<wr.heap.size∧wr.cell? ⟨g,ini.length * 3,none⟩=some (.string (bs m.1))∧wr.cell? ⟨g,ini.length * 3+1,none⟩=some (.bool m.2.1)∧wr.cell? ⟨g,ini.length * 3+2,none⟩=some (.int .i64 m.2.2)∧∀ o,wr.frozen? ⟨g,o,none⟩=false:=by
 have hp:=h.pos
 obtain⟨ini,m,rfl⟩:∃ ini m,ms=ini++[m]:=⟨ms.dropLast,ms.getLast (by intro e;rw[e] at hp;simp at hp),(List.dropLast_concat_getLast _).symm⟩
 have hop:=h.own
 rw[List.length_append,List.length_singleton] at hop
 obtain⟨g,cp,hv,hb,hlt⟩:=hop.form (by omega)
 rw[hv] at hop
 have hg:∀ j,j<3→wr.cell? ⟨g,ini.length * 3+j,none⟩=(mdC m)[j]? := by
  intro j hj
  rw[hop.cellAt _ (by omega),List.flatMap_append,List.getElem?_append_right (by rw[zjO];omega),zjO,show ini.length * 3+j - ini.length * 3=j from by omega]
  simp
 exact⟨ini,m,g,cp,rfl,hv,by omega,hlt,hg 0 (by decide),hg 1 (by decide),hg 2 (by decide),fun o=>hop.frozenAt o⟩
theorem zke {ms:List Md} {m:Md} (h:m ∈ ms):m.1.length≤tot ms:=by
 induction ms with
 | nil=>cases h
 | cons x xs ih=>
  have e:tot (x::xs)=x.1.length+tot xs:=by simp[tot]
  rcases List.mem_cons.1 h with rfl | h
  ·omega
  ·have:=ih h;omega
theorem zL.push {w:World} {k:Nat} {ms:List Md} {v:Value} {wr W w3:World} (h:zL w k ms v wr) (hk:k<24) (hb:Below wr.heap.size wr W) {v':Value} {m:Md} (hown:w3.ownsRow (w.heap.size+1) 43 3 v' (ms.length+1) (ms.flatMap mdC++mdC m)) (hg:W.grownBy w3 v.ownBlock)
  (hm:Gx m.1 m.2.1 m.2.2) (hd:m.2.2≤4) (hl:m.1.length≤29):zL w (k+1) (ms++[m]) v' w3:=by
 have hs:=h.size
 have hbs:=hb.size
 have hgs:=hg.size
 have hc:=h.cnt
 have ht:=h.tot
 refine⟨by simpa using hown,(h.below.trans (hb.mono (by omega))).grown hg (by omega) (fun g e=>by have:=(h.own.lt g e).1;omega),?_,by omega,by simp,by simp;omega,by omega,?_,?_⟩
 ·rw[hg.block _ (by omega) (fun e=>by have:=(h.own.lt _ e.symm).1;omega),hb.block _ (by omega)];exact h.res
 ·intro x hx
  rcases List.mem_append.1 hx with hx | hx
  ·exact h.good x hx
  ·simp at hx;subst hx;exact⟨hm,hd⟩
 ·rw[zjQ,zjR];omega
theorem zL.prev {w:World} {k:Nat} {ini:List Md} {q m:Md} {g cp:Nat} {wr:World} (h:zL w k (ini++[q]++[m]) (.slice (some ⟨g,0,none⟩) (ini.length+1+1) cp) wr) :
  wr.cell? ⟨g,ini.length * 3,none⟩=some (.string (bs q.1))∧wr.cell? ⟨g,ini.length * 3+1,none⟩=some (.bool q.2.1)∧wr.cell? ⟨g,ini.length * 3+2,none⟩=some (.int .i64 q.2.2):=by
 have hop:=h.own
 rw[show (ini++[q]++[m]).length=ini.length+1+1 by simp] at hop
 have hg:∀ j,j<3→wr.cell? ⟨g,ini.length * 3+j,none⟩=(mdC q)[j]? := by
  intro j hj
  rw[hop.cellAt _ (by omega),List.append_assoc,List.flatMap_append,List.getElem?_append_right (by rw[zjO];omega),zjO,show ini.length * 3+j - ini.length * 3=j from by omega,List.flatMap_append,List.getElem?_append_left (by simp[mdC];omega)]
  simp
 exact⟨hg 0 (by decide),hg 1 (by decide),hg 2 (by decide)⟩
theorem zkt (l:List Md):l=[]∨∃ i q,l=i++[q]:=by
 rcases List.eq_nil_or_concat l with h | ⟨i,q,h⟩
 ·exact .inl h
 ·exact .inr ⟨i,q,by simpa using h⟩
theorem zlb (ini:List Md) (m m':Md):((((ini++[m]).flatMap mdC).set (ini.length * 3) (.string (bs m'.1))).set (ini.length * 3+1) (.bool m'.2.1)).set (ini.length * 3+2) (.int .i64 m'.2.2)=(ini++[m']).flatMap mdC:=by
 have e:∀ m:Md,(ini++[m]).flatMap mdC=ini.flatMap mdC++mdC m:=by intro m;simp
 rw[e,e]
 have hl:=zjO ini
 rw[List.set_append_right _ _ (by omega),List.set_append_right _ _ (by omega),List.set_append_right _ _ (by omega),hl]
 simp[mdC]
theorem zL.setLast {w:World} {k:Nat} {ini:List Md} {m:Md} {g cp:Nat} {wr W:World} (h:zL w k (ini++[m]) (.slice (some ⟨g,0,none⟩) (ini.length+1) cp) wr) (hk:k<24) (hb:Below wr.heap.size wr W) {m':Md}
  (hm:Gx m'.1 m'.2.1 m'.2.2) (hd:m'.2.2≤4) (hl:m'.1.length≤m.1.length+29):zL w (k+1) (ini++[m']) (.slice (some ⟨g,0,none⟩) (ini.length+1) cp) (((W.setCell ⟨g,ini.length * 3,none⟩ (.string (bs m'.1))).setCell ⟨g,ini.length * 3+1,none⟩ (.bool m'.2.1)).setCell ⟨g,ini.length * 3+2,none⟩ (.int .i64 m'.2.2)):=by
 have hs:=h.size
 have hbs:=hb.size
 have hc:=h.cnt
 have ht:=h.tot
 have hgl:=(h.own.lt g rfl).1
 have hop:=Zv h.own hb
 rw[List.length_append,List.length_singleton] at hop hc
 have h3:=((((hop.stored (ini.length * 3) (.string (bs m'.1))).1).stored (ini.length * 3+1) (.bool m'.2.1)).1.stored (ini.length * 3+2) (.int .i64 m'.2.2)).1
 rw[zlb] at h3
 refine⟨by simpa using h3,(((h.below.trans (hb.mono (by omega))).setCell (show w.heap.size≤g by omega) _).setCell (show w.heap.size≤g by omega) _).setCell (show w.heap.size≤g by omega) _,?_,by simp;omega,by simp,by simp;omega,by omega,?_,?_⟩
 ·rw[Below.heap_setCell _ _ _ _ (show w.heap.size≠g by omega),Below.heap_setCell _ _ _ _ (show w.heap.size≠g by omega),Below.heap_setCell _ _ _ _ (show w.heap.size≠g by omega),hb.block _ (by omega)];exact h.res
 ·intro x hx
  rcases List.mem_append.1 hx with hx | hx
  ·exact h.good x (by simp[hx])
  ·simp at hx;subst hx;exact⟨hm,hd⟩
 ·rw[zjQ,zjR] at ht ⊢;omega
theorem zkH {t:List UInt8} {e:Bool} {d:Nat} {b t':List UInt8} {e':Bool} (hx:Gx t e d) (hb:b ∈ z4) (h:zkl t e b t' e'):Gx t' e' (d+1)∧t'.length≤t.length+29:=by
 have hb6:=zjT hb
 rcases h with ⟨k,hk,rfl,rfl,hl⟩ | ⟨k,hk,rfl,rfl⟩
 ·exact⟨zkE k hk hb hx hl,by simp[zjN];omega⟩
 ·exact⟨zkC k hk hb hx,by simp[zjN];omega⟩
theorem zly (q m:Md) (ch:Bool) (style:Int) (hs:i64 style) (hq:Gx q.1 q.2.1 q.2.2) (hm:Gx m.1 m.2.1 m.2.2) (hq4:q.2.2<4) (hm4:m.2.2<4) (hql:q.1.length≤1000) (hml:m.1.length≤1000) :
  ∃ (t2:List UInt8) (e2:Bool) (d2:Nat),(∀ w,Calls Tryz.prog 52 #[.agg #[.string (bs q.1),.bool q.2.1,.int .i64 ↑q.2.2],.agg #[.string (bs m.1),.bool m.2.1,.int .i64 ↑m.2.2],.bool ch,.int .i64 style] w fun e w'=>e = .returned (.agg #[.string (bs t2),.bool e2,.int .i64 ↑d2])∧Below w.heap.size w w')∧Gx t2 e2 d2∧d2≤4∧t2.length≤q.1.length+m.1.length+29:=by
 refine⟨_,_,_,fun w=>zlx q.1 q.2.1 q.2.2 m.1 m.2.1 m.2.2 ch style w hs (by omega) (by omega) (by omega) (by omega),?_,by omega,?_⟩
 ·cases ch with
  | true=>exact zkG (ql _) (ql _) hq hm
  | false=>exact zkD (ql _) (ql _) hq hm
 ·have h1:=zjT (ql style)
  have h2:=zjT (ql (style.tdiv 4))
  simp[KT,zjN];omega
theorem zkg {w:World} {b o:Nat} {cs:Array Value} {e:TypeId} {fr:Nat × Nat} (h:w.heap[b]? = some (.cells cs e fr)) (u:Value):(w.setCell ⟨b,o,none⟩ u).heap[b]? = some (.cells (cs.setIfInBounds o u) e fr):=by
 simp[World.setCell,Array.getElem?_modify,h]
structure zk9 (wr wx:World) (b:Nat) (t:List UInt8) (e:Bool) (d:Nat):Prop where
 below:Below wr.heap.size wr wx
 blk:wx.heap[b]? = some (mdO t e d)
theorem zkW {wr w2:World} {O:Obj} {t:List UInt8} {e:Bool} {d:Nat} (h:Below (wr.alloc O).drew.heap.size (wr.alloc O).drew w2):zk9 wr (w2.alloc (.cells #[.string (bs t),.bool e,.int .i64 ↑d] 43)) w2.heap.size t e d:=by
 have hs:wr.heap.size+1≤w2.heap.size:=by have:=h.size;simpa using this
 refine⟨((zc wr O).drew.trans (h.mono ?_)).alloc (by omega) _,zk _ _⟩
 show wr.heap.size≤(wr.alloc O).heap.size
 simp
theorem zkX {wr w2:World} {O:Obj} {t:List UInt8} {e:Bool} {d:Nat} (h:Below ((wr.alloc O).alloc (.cells #[.string ⟨#[]⟩,.bool false,.int .i64 0] 43)).drew.heap.size ((wr.alloc O).alloc (.cells #[.string ⟨#[]⟩,.bool false,.int .i64 0] 43)).drew w2) :
  zk9 wr (((w2.setCell ⟨wr.heap.size+1,0,none⟩ (.string (bs t))).setCell ⟨wr.heap.size+1,1,none⟩ (.bool e)).setCell ⟨wr.heap.size+1,2,none⟩ (.int .i64 ↑d)) (wr.heap.size+1) t e d:=by
 have hb:w2.heap[wr.heap.size+1]? = some (.cells #[.string ⟨#[]⟩,.bool false,.int .i64 0] 43):=by
  rw[h.block _ (by show wr.heap.size+1<((wr.alloc O).alloc _).heap.size;simp)]
  show ((wr.alloc O).alloc _).heap[_]? = _
  exact qb _ _ _ (by simp)
 refine⟨((((((zc wr O).alloc (by simp) _).drew).trans (h.mono ?_)).setCell (Nat.le_succ _) _).setCell (Nat.le_succ _) _).setCell (Nat.le_succ _) _,zkg (zkg (zkg hb _) _) _⟩
 show wr.heap.size≤((wr.alloc O).alloc _).heap.size
 simp;omega
theorem zL.popTwo {w:World} {k:Nat} {ini:List Md} {q m:Md} {g cp:Nat} {wr W:World} (h:zL w k (ini++[q]++[m]) (.slice (some ⟨g,0,none⟩) (ini.length+1+1) cp) wr) (hb:Below wr.heap.size wr W) :
  W.ownsRow (w.heap.size+1) 43 3 (.slice (some ⟨g,0,none⟩) ini.length cp) ini.length (ini.flatMap mdC):=by
 have hop:=Zv h.own hb
 rw[show (ini++[q]++[m]).length=ini.length+1+1 by simp] at hop
 have h1:W.ownsRow (w.heap.size+1) 43 3 (.slice (some ⟨g,0,none⟩) (ini.length+1) cp) (ini.length+1) ((ini++[q]).flatMap mdC):=by
  refine ownsRow_pop (last:=mdC m) (by rw[zjO];simp) ?_
  simpa using hop
 refine ownsRow_pop (last:=mdC q) (by rw[zjO]) ?_
 simpa using h1
theorem zL.pushTwo {w:World} {k:Nat} {ini:List Md} {q m:Md} {g cp:Nat} {wr W w3:World} (h:zL w k (ini++[q]++[m]) (.slice (some ⟨g,0,none⟩) (ini.length+1+1) cp) wr) (hk:k<24) (hb:Below wr.heap.size wr W) {v':Value} {m':Md} (hown:w3.ownsRow (w.heap.size+1) 43 3 v' (ini.length+1) (ini.flatMap mdC++mdC m')) (hg:W.grownBy w3 (some g))
  (hm:Gx m'.1 m'.2.1 m'.2.2) (hd:m'.2.2≤4) (hl:m'.1.length≤q.1.length+m.1.length+29):zL w (k+1) (ini++[m']) v' w3:=by
 have hs:=h.size
 have hbs:=hb.size
 have hgs:=hg.size
 have hc:=h.cnt
 have ht:=h.tot
 have hgl:=(h.own.lt g rfl).1
 simp only[List.length_append,List.length_singleton] at hc
 refine⟨by simpa using hown,(h.below.trans (hb.mono (by omega))).grown hg (by omega) (fun g' e=>by cases e;omega),?_,by omega,by simp,by simp;omega,by omega,?_,?_⟩
 ·rw[hg.block _ (by omega) (fun e=>by cases e;omega),hb.block _ (by omega)];exact h.res
 ·intro x hx
  rcases List.mem_append.1 hx with hx | hx
  ·exact h.good x (by simp[hx])
  ·simp at hx;subst hx;exact⟨hm,hd⟩
 ·rw[zjQ,zjQ,zjR,zjR] at ht
  rw[zjQ,zjR];omega
theorem zle {w:World} {base:Nat} {e:TypeId} {size g n c:Nat} {xs:List Value} (h:w.ownsRow base e size (.slice (some ⟨g,0,none⟩) n c) n xs):n≤c:=by
 rcases h.2 with ⟨hv,_⟩ | ⟨g',cap',cur,hv,_,_,hc,_⟩
 ·cases hv
 ·cases hv;exact hc
theorem zL.cap {w:World} {k:Nat} {ini:List Md} {q m:Md} {g cp:Nat} {wr:World} (h:zL w k (ini++[q]++[m]) (.slice (some ⟨g,0,none⟩) (ini.length+1+1) cp) wr):ini.length+1+1≤cp:=by
 have hop:=h.own
 rw[show (ini++[q]++[m]).length=ini.length+1+1 by simp] at hop
 exact zle hop
theorem zjV {p:Prop} (h:p):Hid p:=h
theorem zjS (j:Nat) (hj:j<10):∃ (e:Bool) (d:Nat),Gx (zO.getD j []) e d∧d≤4∧(zO.getD j []).length≤29∧(((zO.getD j [] == [40,41])=true∧e=true∧d=1)∨((zO.getD j [] == [40,41])=false∧e=false∧d=0)):=by
 by_cases h9:j=9
 ·subst h9;exact⟨true,1,zkF,by decide,by decide,.inl ⟨by decide,rfl,rfl⟩⟩
 ·refine⟨false,0,zki j (by omega),by decide,?_,.inr ⟨?_,rfl,rfl⟩⟩
  ·have:j=0∨j=1∨j=2∨j=3∨j=4∨j=5∨j=6∨j=7∨j=8:=by omega
   rcases this with rfl | rfl | rfl | rfl | rfl | rfl | rfl | rfl | rfl<;>decide
  ·have:j=0∨j=1∨j=2∨j=3∨j=4∨j=5∨j=6∨j=7∨j=8:=by omega
   rcases this with rfl | rfl | rfl | rfl | rfl | rfl | rfl | rfl | rfl<;>decide
theorem qf (m:Md):∀ u ∈ mdC m,u.oneCell'=true:=by
 intro u hu
 simp[mdC] at hu
 rcases hu with rfl | rfl | rfl<;>rfl
def zkA (w:World) (e:Ending) (w':World):Prop:=e = .returned (.slice (some ⟨w.heap.size,0,none⟩) 10 10)∧Below w.heap.size w w'∧w.heap.size<w'.heap.size∧∀ j,j<10→w'.cell? ⟨w.heap.size,j,none⟩=some (.string (bs (zO.getD j [])))
theorem zjW (w:World):Calls Tryz.prog 54 #[] w fun e w'=>zkA w e w':=by
 go_enter Tryz.func54,Tryz.ntmps54
 go_wp2
 go_ret
 refine⟨rfl,zc w _,by simp,?_⟩
 intro j hj
 have:j=0∨j=1∨j=2∨j=3∨j=4∨j=5∨j=6∨j=7∨j=8∨j=9:=by omega
 rw[z8 (zk w _)]
 rcases this with rfl | rfl | rfl | rfl | rfl | rfl | rfl | rfl | rfl | rfl<;>rfl
def zkB (w:World) (e:Ending) (w':World):Prop:=∃ m:Md,e = .returned (mdV m.1 m.2.1 m.2.2)∧Gx m.1 m.2.1 m.2.2∧m.2.2≤4∧m.1.length≤700∧Below w.heap.size w w'
theorem zl0 (w:World) (a:Option Addr) (len cap:Nat) (style:Int) (hr:zjX w a len) (hl:len≤maxLen) (hs:i64 style) :
  Calls Tryz.prog 23 #[.slice a len cap,.int .i64 style] w fun e w'=>zkB w e w':=by
 obtain⟨i0,hi,hz0,hz1,hz2⟩:=info_parts Tryz.infoMade
 have HR:Hid (zjX w a len):=hr
 have HS:Hid (i64 style):=hs
 clear hr hs
 have hlm:(len:Int)≤9223372036854775807:=by unfold maxLen at hl;omega
 go_enter Tryz.func23,Tryz.ntmps23
 go_wp2_with fail
 go_loopw [5,6] (fun v i wr=>∃ (k:Nat) (ms:List Md),i = .int .i64 k∧zL w k ms v wr) (fun _ i _=>24 - (intOf i).toNat)
 case atStart=>
  refine⟨0,[([39,97,39],false,0)],rfl,⟨⟨rfl,.inr ⟨w.heap.size+1,1,_,rfl,Nat.le_refl _,qb _ _ _ (by simp),Nat.le_refl _,by decide,rfl,rfl⟩⟩,(zc w _).alloc (by simp) _,?_,by simp,by simp,by simp,by omega,?_,by simp[tot]⟩⟩
  ·rw[zm _ _ (by simp)];exact zk _ _
  ·intro m hm
   simp at hm;subst hm
   exact⟨zki 0 (by decide),by decide⟩
 case round=>
  obtain⟨k,ms,rfl,hR⟩:=hrel
  have htop:=hR.top
  have hsz:=hR.size
  have hres:=z8 hR.res
  have hfr:=zi hR.res
  have hlt0:w.heap.size<wr.heap.size:=by omega
  obtain⟨ini,m,g,cp,rfl,rfl,hgl,hgw,c0,c1,c2,cf⟩:=hR.last
  have hcnt:=hR.cnt
  rw[List.length_append,List.length_singleton] at hcnt
  have HRR:Hid (zL w k (ini++[m]) (.slice (some ⟨g,0,none⟩) (ini.length+1) cp) wr):=hR
  clear hR
  by_cases hkl:k<len
  ·by_cases hk24:k<24
   ·obtain⟨x,c,rfl,hxb,hxc,hci⟩:=HR.out k hkl
    have hcell:wr.cell? (x.add k)=some (.int .i64 c):=(HRR.out.below.cell hxb).trans hxc
    have hp:=fun w=>zk7 c 1099511627776 w hci (by decide) (by decide)
    have hV0:=zh9 c (n:=1099511627776) (by decide)
    obtain⟨V,hV⟩:∃ V,V=YY c 1099511627776:=⟨_,rfl⟩
    rw[← hV] at hp hV0
    clear hV hxc hci hxb
    have h4:V % 4<4:=Nat.mod_lt _ (by decide)
    by_cases hc2 : 2≤V % 4
    ·have hka:=zjW
     have hj:V / 4 % 10<10:=Nat.mod_lt _ (by decide)
     go_wp2_with (first | (go_at_call 32;refine (hp _).mono ?_;rintro _ w' ⟨rfl,hw⟩;replace hw:=hw.symm;subst hw))
     refine (hka _).mono ?_
     rintro _ w2 ⟨rfl,hb2,hs2,hat⟩
     have hown1:=Zv (HRR.out.own.alloc (mdO m.1 m.2.1 m.2.2)) hb2
     rw[List.length_append,List.length_singleton] at hown1
     have hat1:=hat _ hj
     simp only[World.size_alloc] at hat1 hs2
     obtain⟨e0,d0,hG0,hd0,hl0,hq0⟩:=zjS _ hj
     generalize zO.getD (V / 4 % 10) []=T at hat1 hG0 hl0 hq0
     have HG0:=(show Hid (Gx T e0 d0) from hG0)
     have HBW:Hid (∀ O1 O2,Below wr.heap.size wr ((w2.alloc O1).alloc O2)):=fun O1 O2=>(((zc wr _).trans (hb2.mono (by simp))).alloc (by omega) _).alloc (by simp;omega) _
     clear hat hb2 hka hG0
     rcases hq0 with ⟨hTe,rfl,rfl⟩ | ⟨hTe,rfl,rfl⟩
     ·go_wp2_with (first | (at_builtin;refine wpList_append_lies _ rfl _ _ 101 rfl (w.heap.size+1) 43 i0 _ 3 32 Tryz.underlying101 hi hz0 hz1 hz2 rfl (by decide) _ _ _ rfl ((hown1.alloc _).alloc _) ⟨w2.heap.size+1,0,none⟩ 1 1 (mdC (T,true,1)) rfl rfl ?c1 (qf _) (by decide) ?c3 ?c4 ?c5 (w2.heap.size+2) (by simp) ?_))
      case c1=>exact World.news_of_block (qb _ _ _ (by simp))
      case c3=>unfold maxLen;(try simp only[List.length_nil,List.length_append,List.length_singleton]);omega
      case c4=>(try simp only[List.length_nil,List.length_append,List.length_singleton]);omega
      case c5=>simp;omega
      intro g3 cp3 w3 hown3 hgrow3 hat3 hlt3
      have hN:=HRR.out.push hk24 (HBW.out _ _) (m:=(T,true,1)) (by simpa using hown3) hgrow3 HG0.out hd0 hl0
      clear hown1 hown3 hgrow3 hat3
      go_wp2
      go_roundw
      case rel=>exact⟨k+1,_,by go_num,hN⟩
      case measure=>simp[intOf];omega
     ·go_wp2_with (first | (at_builtin;refine wpList_append_lies _ rfl _ _ 101 rfl (w.heap.size+1) 43 i0 _ 3 32 Tryz.underlying101 hi hz0 hz1 hz2 rfl (by decide) _ _ _ rfl ((hown1.alloc _).alloc _) ⟨w2.heap.size+1,0,none⟩ 1 1 (mdC (T,false,0)) rfl rfl ?c1 (qf _) (by decide) ?c3 ?c4 ?c5 (w2.heap.size+2) (by simp) ?_))
      case c1=>exact World.news_of_block (qb _ _ _ (by simp))
      case c3=>unfold maxLen;(try simp only[List.length_nil,List.length_append,List.length_singleton]);omega
      case c4=>(try simp only[List.length_nil,List.length_append,List.length_singleton]);omega
      case c5=>simp;omega
      intro g3 cp3 w3 hown3 hgrow3 hat3 hlt3
      have hN:=HRR.out.push hk24 (HBW.out _ _) (m:=(T,false,0)) (by simpa using hown3) hgrow3 HG0.out hd0 hl0
      clear hown1 hown3 hgrow3 hat3
      go_wp2
      go_roundw
      case rel=>exact⟨k+1,_,by go_num,hN⟩
      case measure=>simp[intOf];omega
    ·by_cases hm4:m.2.2<4
     ·by_cases hv1:V % 4=1
      ·have hsg:=fun w=>zl8 m.1 m.2.1 m.2.2 ((V:Int) / 4) style w (by constructor<;>omega) HS.out (by have:=HRR.out.tot;have:=zke (ms:=ini++[m]) (m:=m) (by simp);omega) (by omega)
       go_wp2_with (first | (go_at_call 32;refine (hp _).mono ?_;rintro _ w' ⟨rfl,hw⟩;replace hw:=hw.symm;subst hw))
       refine (hsg _).mono ?_
       rintro _ w2 ⟨t',e',rfl,hPo,hb2⟩
       have hop2:=Zv (HRR.out.own.alloc (mdO m.1 m.2.1 m.2.2)) hb2
       have cf2:=fun o=>(World.ownsRow.frozenAt (by simpa using hop2) o:w2.frozen? ⟨g,o,none⟩=false)
       have hbw:=(zc wr (mdO m.1 m.2.1 m.2.2)).trans (hb2.mono (by simp))
       have x0:=(hbw.cell (p:=⟨g,ini.length * 3,none⟩) hgw).trans c0
       have x1:=(hbw.cell (p:=⟨g,ini.length * 3+1,none⟩) hgw).trans c1
       have x2:=(hbw.cell (p:=⟨g,ini.length * 3+2,none⟩) hgw).trans c2
       have hs2:=hb2.size
       simp at hs2
       have n2:g<w2.heap.size:=by omega
       obtain⟨hG2,hL2⟩:=zkH (HRR.out.good m (by simp)).1 (ql style) hPo
       have hN:=HRR.out.setLast hk24 hbw (m':=(t',e',m.2.2+1)) hG2 (by simp;omega) hL2
       clear hsg hop2 hb2 hPo hG2 hL2 hbw
       go_wp2
       go_roundw
       case rel=>exact⟨k+1,_,by go_num,hN⟩
       case measure=>simp[intOf];omega
      ·have hv0:V % 4=0:=by omega
       rcases zkt ini with rfl | ⟨ini',q,rfl⟩
       ·simp only[List.length_nil,Nat.zero_mul,Nat.zero_add] at c0 c1 c2 hcnt HRR ⊢
        have hka:=zjW
        have hj:V / 4 % 10<10:=Nat.mod_lt _ (by decide)
        go_wp2_with (first | (go_at_call 32;refine (hp _).mono ?_;rintro _ w' ⟨rfl,hw⟩;replace hw:=hw.symm;subst hw))
        refine (hka _).mono ?_
        rintro _ w2 ⟨rfl,hb2,hs2,hat⟩
        have hown1:=Zv (HRR.out.own.alloc (mdO m.1 m.2.1 m.2.2)) hb2
        rw[List.length_append,List.length_singleton] at hown1
        have hat1:=hat _ hj
        simp only[World.size_alloc] at hat1 hs2
        obtain⟨e0,d0,hG0,hd0,hl0,hq0⟩:=zjS _ hj
        generalize zO.getD (V / 4 % 10) []=T at hat1 hG0 hl0 hq0
        have HG0:=(show Hid (Gx T e0 d0) from hG0)
        have HBW:Hid (∀ O1 O2,Below wr.heap.size wr ((w2.alloc O1).alloc O2)):=fun O1 O2=>(((zc wr _).trans (hb2.mono (by simp))).alloc (by omega) _).alloc (by simp;omega) _
        clear hat hb2 hka hG0
        rcases hq0 with ⟨hTe,rfl,rfl⟩ | ⟨hTe,rfl,rfl⟩
        ·go_wp2_with (first | (at_builtin;refine wpList_append_lies _ rfl _ _ 101 rfl (w.heap.size+1) 43 i0 _ 3 32 Tryz.underlying101 hi hz0 hz1 hz2 rfl (by decide) _ _ _ rfl ((hown1.alloc _).alloc _) ⟨w2.heap.size+1,0,none⟩ 1 1 (mdC (T,true,1)) rfl rfl ?c1 (qf _) (by decide) ?c3 ?c4 ?c5 (w2.heap.size+2) (by simp) ?_))
         case c1=>exact World.news_of_block (qb _ _ _ (by simp))
         case c3=>unfold maxLen;(try simp only[List.length_nil,List.length_append,List.length_singleton]);omega
         case c4=>(try simp only[List.length_nil,List.length_append,List.length_singleton]);omega
         case c5=>simp;omega
         intro g3 cp3 w3 hown3 hgrow3 hat3 hlt3
         have hN:=HRR.out.push hk24 (HBW.out _ _) (m:=(T,true,1)) (by simpa using hown3) hgrow3 HG0.out hd0 hl0
         clear hown1 hown3 hgrow3 hat3
         go_wp2
         go_roundw
         case rel=>exact⟨k+1,_,by go_num,hN⟩
         case measure=>simp[intOf];omega
        ·go_wp2_with (first | (at_builtin;refine wpList_append_lies _ rfl _ _ 101 rfl (w.heap.size+1) 43 i0 _ 3 32 Tryz.underlying101 hi hz0 hz1 hz2 rfl (by decide) _ _ _ rfl ((hown1.alloc _).alloc _) ⟨w2.heap.size+1,0,none⟩ 1 1 (mdC (T,false,0)) rfl rfl ?c1 (qf _) (by decide) ?c3 ?c4 ?c5 (w2.heap.size+2) (by simp) ?_))
         case c1=>exact World.news_of_block (qb _ _ _ (by simp))
         case c3=>unfold maxLen;(try simp only[List.length_nil,List.length_append,List.length_singleton]);omega
         case c4=>(try simp only[List.length_nil,List.length_append,List.length_singleton]);omega
         case c5=>simp;omega
         intro g3 cp3 w3 hown3 hgrow3 hat3 hlt3
         have hN:=HRR.out.push hk24 (HBW.out _ _) (m:=(T,false,0)) (by simpa using hown3) hgrow3 HG0.out hd0 hl0
         clear hown1 hown3 hgrow3 hat3
         go_wp2
         go_roundw
         case rel=>exact⟨k+1,_,by go_num,hN⟩
         case measure=>simp[intOf];omega
       ·simp only[List.length_append,List.length_singleton] at c0 c1 c2 hcnt HRR ⊢
        obtain⟨p0,p1,p2⟩:=HRR.out.prev
        by_cases hq4:q.2.2<4
        ·have hms:=HRR.out.good m (by simp)
         have hqs:=HRR.out.good q (by simp)
         have htt:=HRR.out.tot
         rw[zjQ,zjQ,zjR,zjR] at htt
         obtain⟨t2,e2,d2,htw,hG2,hd2,hL2⟩:=zly q m ((V:Int) / 4 % 2 == 0) style HS.out hqs.1 hms.1 hq4 hm4 (by omega) (by omega)
         have HG2:=(show Hid (Gx t2 e2 d2) from hG2)
         clear hms hqs hG2
         have hw0:IntKind.i64.wrap (ini'.length:Int)=(ini'.length:Int):=by
          unfold IntKind.wrap
          simp[IntKind.signed,IntKind.bits]
          omega
         have hw1:(ini'.length:Int)+1+1 - 2=(ini'.length:Int):=by omega
         have hw2:((ini'.length+1+1:Nat):Int) - 2=(ini'.length:Int):=by omega
         go_upto_region 13 with (first | (go_at_call 32;refine (hp _).mono ?_;rintro _ w' ⟨rfl,hw⟩;replace hw:=hw.symm;subst hw))
         have HTW:=zjV htw
         clear htw
         go_cut [9] from 14 to 114 (fun p9 wx=>∃ b,p9 = .pointer (some ⟨b,0,none⟩)∧zk9 wr wx b t2 e2 d2)
         case first=>
          go_region_with (first | (go_at_call 52;refine (HTW.out _).mono ?_;rintro _ w2 ⟨rfl,hb2⟩;have y1:=fun p h=>hb2.cell (p:=p) h;have y2:=fun p h=>hb2.frozen (p:=p) h;have y3:=hb2.size;have HB2:=zjV hb2;clear hb2))
          all_goals (try go_wp2_with fail)
          all_goals go_meet
          all_goals first | exact⟨_,rfl,zkW HB2.out⟩ | exact⟨_,rfl,zkX HB2.out⟩
         case rest=>
          obtain⟨b,rfl,hC⟩:=hcut
          have z0:=z8 hC.blk
          have hbl:b<wc.heap.size:=zd hC.blk
          have hown:=HRR.out.popTwo hC.below
          have HOWN:=zjV hown
          have HCB:=zjV hC.below
          have hsw:=hC.below.size
          have hnb:((wc.alloc (.cells #[.string (bs t2),.bool e2,.int .i64 ↑d2] 43)).drew).heap[wc.heap.size]? = some (.cells #[.string (bs t2),.bool e2,.int .i64 ↑d2] 43 (0,0)):=zk _ _
          have HNB:=zjV hnb
          have HM:Hid (ini'.length+1≤maxLen):=by show _≤_;unfold maxLen;omega
          have hcp:=HRR.out.cap
          have hcp1:ini'.length≤cp:=by omega
          have hcp2:(ini'.length:Int)≤(cp:Int):=by omega
          clear hC hown hnb p0 p1 p2 c0 c1 c2 hp
          go_wp2_with fail
          go_region_law ((refine step_append_lies _ (by rfl) _ _ _ (by rfl) (w.heap.size+1) 43 i0 _ 3 32 Tryz.underlying101 hi hz0 hz1 hz2 (by rfl) (by decide) _ _ _ (by rfl) (HOWN.out.alloc _) ⟨wc.heap.size,0,none⟩ 1 1 (mdC (t2,e2,d2)) (by rfl) (by rfl) (World.news_of_block HNB.out) (qf _) (by decide) HM.out (by omega) (by simp;omega) (wc.heap.size+1) (by simp) ?_;intro g3 cp3 w3 hown3 hgrow3 hat3 hlt3;have hN:=HRR.out.pushTwo hk24 ((HCB.out.alloc hsw _).drew) (m':=(t2,e2,d2)) hown3 hgrow3 HG2.out hd2 hL2;have HN:=zjV hN;clear hN hown3 hgrow3 hat3))
          all_goals go_wp2
          all_goals go_roundw
          case rel=>exact⟨k+1,_,by go_num,HN.out⟩
          case measure=>simp[intOf];omega
        ·have hka:=zjW
         have hj:V / 4 % 10<10:=Nat.mod_lt _ (by decide)
         go_wp2_with (first | (go_at_call 32;refine (hp _).mono ?_;rintro _ w' ⟨rfl,hw⟩;replace hw:=hw.symm;subst hw))
         refine (hka _).mono ?_
         rintro _ w2 ⟨rfl,hb2,hs2,hat⟩
         have hown1:=Zv (HRR.out.own.alloc (mdO m.1 m.2.1 m.2.2)) hb2
         rw[List.length_append,List.length_singleton] at hown1
         have hat1:=hat _ hj
         simp only[World.size_alloc] at hat1 hs2
         obtain⟨e0,d0,hG0,hd0,hl0,hq0⟩:=zjS _ hj
         generalize zO.getD (V / 4 % 10) []=T at hat1 hG0 hl0 hq0
         have HG0:=(show Hid (Gx T e0 d0) from hG0)
         have HBW:Hid (∀ O1 O2,Below wr.heap.size wr ((w2.alloc O1).alloc O2)):=fun O1 O2=>(((zc wr _).trans (hb2.mono (by simp))).alloc (by omega) _).alloc (by simp;omega) _
         clear hat hb2 hka hG0
         rcases hq0 with ⟨hTe,rfl,rfl⟩ | ⟨hTe,rfl,rfl⟩
         ·go_wp2_with (first | (at_builtin;refine wpList_append_lies _ rfl _ _ 101 rfl (w.heap.size+1) 43 i0 _ 3 32 Tryz.underlying101 hi hz0 hz1 hz2 rfl (by decide) _ _ _ rfl ((hown1.alloc _).alloc _) ⟨w2.heap.size+1,0,none⟩ 1 1 (mdC (T,true,1)) rfl rfl ?c1 (qf _) (by decide) ?c3 ?c4 ?c5 (w2.heap.size+2) (by simp) ?_))
          case c1=>exact World.news_of_block (qb _ _ _ (by simp))
          case c3=>unfold maxLen;(try simp only[List.length_nil,List.length_append,List.length_singleton]);omega
          case c4=>(try simp only[List.length_nil,List.length_append,List.length_singleton]);omega
          case c5=>simp;omega
          intro g3 cp3 w3 hown3 hgrow3 hat3 hlt3
          have hN:=HRR.out.push hk24 (HBW.out _ _) (m:=(T,true,1)) (by simpa using hown3) hgrow3 HG0.out hd0 hl0
          clear hown1 hown3 hgrow3 hat3
          go_wp2
          go_roundw
          case rel=>exact⟨k+1,_,by go_num,hN⟩
          case measure=>simp[intOf];omega
         ·go_wp2_with (first | (at_builtin;refine wpList_append_lies _ rfl _ _ 101 rfl (w.heap.size+1) 43 i0 _ 3 32 Tryz.underlying101 hi hz0 hz1 hz2 rfl (by decide) _ _ _ rfl ((hown1.alloc _).alloc _) ⟨w2.heap.size+1,0,none⟩ 1 1 (mdC (T,false,0)) rfl rfl ?c1 (qf _) (by decide) ?c3 ?c4 ?c5 (w2.heap.size+2) (by simp) ?_))
          case c1=>exact World.news_of_block (qb _ _ _ (by simp))
          case c3=>unfold maxLen;(try simp only[List.length_nil,List.length_append,List.length_singleton]);omega
          case c4=>(try simp only[List.length_nil,List.length_append,List.length_singleton]);omega
          case c5=>simp;omega
          intro g3 cp3 w3 hown3 hgrow3 hat3 hlt3
          have hN:=HRR.out.push hk24 (HBW.out _ _) (m:=(T,false,0)) (by simpa using hown3) hgrow3 HG0.out hd0 hl0
          clear hown1 hown3 hgrow3 hat3
          go_wp2
          go_roundw
          case rel=>exact⟨k+1,_,by go_num,hN⟩
          case measure=>simp[intOf];omega
     ·by_cases hv1:V % 4=1
      ·have hka:=zjW
       have hj:V / 4 % 10<10:=Nat.mod_lt _ (by decide)
       go_wp2_with (first | (go_at_call 32;refine (hp _).mono ?_;rintro _ w' ⟨rfl,hw⟩;replace hw:=hw.symm;subst hw))
       refine (hka _).mono ?_
       rintro _ w2 ⟨rfl,hb2,hs2,hat⟩
       have hown1:=Zv (HRR.out.own.alloc (mdO m.1 m.2.1 m.2.2)) hb2
       rw[List.length_append,List.length_singleton] at hown1
       have hat1:=hat _ hj
       simp only[World.size_alloc] at hat1 hs2
       obtain⟨e0,d0,hG0,hd0,hl0,hq0⟩:=zjS _ hj
       generalize zO.getD (V / 4 % 10) []=T at hat1 hG0 hl0 hq0
       have HG0:=(show Hid (Gx T e0 d0) from hG0)
       have HBW:Hid (∀ O1 O2,Below wr.heap.size wr ((w2.alloc O1).alloc O2)):=fun O1 O2=>(((zc wr _).trans (hb2.mono (by simp))).alloc (by omega) _).alloc (by simp;omega) _
       clear hat hb2 hka hG0
       rcases hq0 with ⟨hTe,rfl,rfl⟩ | ⟨hTe,rfl,rfl⟩
       ·go_wp2_with (first | (at_builtin;refine wpList_append_lies _ rfl _ _ 101 rfl (w.heap.size+1) 43 i0 _ 3 32 Tryz.underlying101 hi hz0 hz1 hz2 rfl (by decide) _ _ _ rfl ((hown1.alloc _).alloc _) ⟨w2.heap.size+1,0,none⟩ 1 1 (mdC (T,true,1)) rfl rfl ?c1 (qf _) (by decide) ?c3 ?c4 ?c5 (w2.heap.size+2) (by simp) ?_))
        case c1=>exact World.news_of_block (qb _ _ _ (by simp))
        case c3=>unfold maxLen;(try simp only[List.length_nil,List.length_append,List.length_singleton]);omega
        case c4=>(try simp only[List.length_nil,List.length_append,List.length_singleton]);omega
        case c5=>simp;omega
        intro g3 cp3 w3 hown3 hgrow3 hat3 hlt3
        have hN:=HRR.out.push hk24 (HBW.out _ _) (m:=(T,true,1)) (by simpa using hown3) hgrow3 HG0.out hd0 hl0
        clear hown1 hown3 hgrow3 hat3
        go_wp2
        go_roundw
        case rel=>exact⟨k+1,_,by go_num,hN⟩
        case measure=>simp[intOf];omega
       ·go_wp2_with (first | (at_builtin;refine wpList_append_lies _ rfl _ _ 101 rfl (w.heap.size+1) 43 i0 _ 3 32 Tryz.underlying101 hi hz0 hz1 hz2 rfl (by decide) _ _ _ rfl ((hown1.alloc _).alloc _) ⟨w2.heap.size+1,0,none⟩ 1 1 (mdC (T,false,0)) rfl rfl ?c1 (qf _) (by decide) ?c3 ?c4 ?c5 (w2.heap.size+2) (by simp) ?_))
        case c1=>exact World.news_of_block (qb _ _ _ (by simp))
        case c3=>unfold maxLen;(try simp only[List.length_nil,List.length_append,List.length_singleton]);omega
        case c4=>(try simp only[List.length_nil,List.length_append,List.length_singleton]);omega
        case c5=>simp;omega
        intro g3 cp3 w3 hown3 hgrow3 hat3 hlt3
        have hN:=HRR.out.push hk24 (HBW.out _ _) (m:=(T,false,0)) (by simpa using hown3) hgrow3 HG0.out hd0 hl0
        clear hown1 hown3 hgrow3 hat3
        go_wp2
        go_roundw
        case rel=>exact⟨k+1,_,by go_num,hN⟩
        case measure=>simp[intOf];omega
      ·have hv0:V % 4=0:=by omega
       rcases zkt ini with rfl | ⟨ini',q,hiq⟩
       ·simp only[List.length_nil,Nat.zero_mul,Nat.zero_add] at c0 c1 c2 hcnt HRR ⊢
        have hka:=zjW
        have hj:V / 4 % 10<10:=Nat.mod_lt _ (by decide)
        go_wp2_with (first | (go_at_call 32;refine (hp _).mono ?_;rintro _ w' ⟨rfl,hw⟩;replace hw:=hw.symm;subst hw))
        refine (hka _).mono ?_
        rintro _ w2 ⟨rfl,hb2,hs2,hat⟩
        have hown1:=Zv (HRR.out.own.alloc (mdO m.1 m.2.1 m.2.2)) hb2
        rw[List.length_append,List.length_singleton] at hown1
        have hat1:=hat _ hj
        simp only[World.size_alloc] at hat1 hs2
        obtain⟨e0,d0,hG0,hd0,hl0,hq0⟩:=zjS _ hj
        generalize zO.getD (V / 4 % 10) []=T at hat1 hG0 hl0 hq0
        have HG0:=(show Hid (Gx T e0 d0) from hG0)
        have HBW:Hid (∀ O1 O2,Below wr.heap.size wr ((w2.alloc O1).alloc O2)):=fun O1 O2=>(((zc wr _).trans (hb2.mono (by simp))).alloc (by omega) _).alloc (by simp;omega) _
        clear hat hb2 hka hG0
        rcases hq0 with ⟨hTe,rfl,rfl⟩ | ⟨hTe,rfl,rfl⟩
        ·go_wp2_with (first | (at_builtin;refine wpList_append_lies _ rfl _ _ 101 rfl (w.heap.size+1) 43 i0 _ 3 32 Tryz.underlying101 hi hz0 hz1 hz2 rfl (by decide) _ _ _ rfl ((hown1.alloc _).alloc _) ⟨w2.heap.size+1,0,none⟩ 1 1 (mdC (T,true,1)) rfl rfl ?c1 (qf _) (by decide) ?c3 ?c4 ?c5 (w2.heap.size+2) (by simp) ?_))
         case c1=>exact World.news_of_block (qb _ _ _ (by simp))
         case c3=>unfold maxLen;(try simp only[List.length_nil,List.length_append,List.length_singleton]);omega
         case c4=>(try simp only[List.length_nil,List.length_append,List.length_singleton]);omega
         case c5=>simp;omega
         intro g3 cp3 w3 hown3 hgrow3 hat3 hlt3
         have hN:=HRR.out.push hk24 (HBW.out _ _) (m:=(T,true,1)) (by simpa using hown3) hgrow3 HG0.out hd0 hl0
         clear hown1 hown3 hgrow3 hat3
         go_wp2
         go_roundw
         case rel=>exact⟨k+1,_,by go_num,hN⟩
         case measure=>simp[intOf];omega
        ·go_wp2_with (first | (at_builtin;refine wpList_append_lies _ rfl _ _ 101 rfl (w.heap.size+1) 43 i0 _ 3 32 Tryz.underlying101 hi hz0 hz1 hz2 rfl (by decide) _ _ _ rfl ((hown1.alloc _).alloc _) ⟨w2.heap.size+1,0,none⟩ 1 1 (mdC (T,false,0)) rfl rfl ?c1 (qf _) (by decide) ?c3 ?c4 ?c5 (w2.heap.size+2) (by simp) ?_))
         case c1=>exact World.news_of_block (qb _ _ _ (by simp))
         case c3=>unfold maxLen;(try simp only[List.length_nil,List.length_append,List.length_singleton]);omega
         case c4=>(try simp only[List.length_nil,List.length_append,List.length_singleton]);omega
         case c5=>simp;omega
         intro g3 cp3 w3 hown3 hgrow3 hat3 hlt3
         have hN:=HRR.out.push hk24 (HBW.out _ _) (m:=(T,false,0)) (by simpa using hown3) hgrow3 HG0.out hd0 hl0
         clear hown1 hown3 hgrow3 hat3
         go_wp2
         go_roundw
         case rel=>exact⟨k+1,_,by go_num,hN⟩
         case measure=>simp[intOf];omega
       ·have hi1 : 1≤ini.length:=by rw[hiq];simp
        clear hiq
        have hka:=zjW
        have hj:V / 4 % 10<10:=Nat.mod_lt _ (by decide)
        go_wp2_with (first | (go_at_call 32;refine (hp _).mono ?_;rintro _ w' ⟨rfl,hw⟩;replace hw:=hw.symm;subst hw))
        refine (hka _).mono ?_
        rintro _ w2 ⟨rfl,hb2,hs2,hat⟩
        have hown1:=Zv (HRR.out.own.alloc (mdO m.1 m.2.1 m.2.2)) hb2
        rw[List.length_append,List.length_singleton] at hown1
        have hat1:=hat _ hj
        simp only[World.size_alloc] at hat1 hs2
        obtain⟨e0,d0,hG0,hd0,hl0,hq0⟩:=zjS _ hj
        generalize zO.getD (V / 4 % 10) []=T at hat1 hG0 hl0 hq0
        have HG0:=(show Hid (Gx T e0 d0) from hG0)
        have HBW:Hid (∀ O1 O2,Below wr.heap.size wr ((w2.alloc O1).alloc O2)):=fun O1 O2=>(((zc wr _).trans (hb2.mono (by simp))).alloc (by omega) _).alloc (by simp;omega) _
        clear hat hb2 hka hG0
        rcases hq0 with ⟨hTe,rfl,rfl⟩ | ⟨hTe,rfl,rfl⟩
        ·go_wp2_with (first | (at_builtin;refine wpList_append_lies _ rfl _ _ 101 rfl (w.heap.size+1) 43 i0 _ 3 32 Tryz.underlying101 hi hz0 hz1 hz2 rfl (by decide) _ _ _ rfl ((hown1.alloc _).alloc _) ⟨w2.heap.size+1,0,none⟩ 1 1 (mdC (T,true,1)) rfl rfl ?c1 (qf _) (by decide) ?c3 ?c4 ?c5 (w2.heap.size+2) (by simp) ?_))
         case c1=>exact World.news_of_block (qb _ _ _ (by simp))
         case c3=>unfold maxLen;(try simp only[List.length_nil,List.length_append,List.length_singleton]);omega
         case c4=>(try simp only[List.length_nil,List.length_append,List.length_singleton]);omega
         case c5=>simp;omega
         intro g3 cp3 w3 hown3 hgrow3 hat3 hlt3
         have hN:=HRR.out.push hk24 (HBW.out _ _) (m:=(T,true,1)) (by simpa using hown3) hgrow3 HG0.out hd0 hl0
         clear hown1 hown3 hgrow3 hat3
         go_wp2
         go_roundw
         case rel=>exact⟨k+1,_,by go_num,hN⟩
         case measure=>simp[intOf];omega
        ·go_wp2_with (first | (at_builtin;refine wpList_append_lies _ rfl _ _ 101 rfl (w.heap.size+1) 43 i0 _ 3 32 Tryz.underlying101 hi hz0 hz1 hz2 rfl (by decide) _ _ _ rfl ((hown1.alloc _).alloc _) ⟨w2.heap.size+1,0,none⟩ 1 1 (mdC (T,false,0)) rfl rfl ?c1 (qf _) (by decide) ?c3 ?c4 ?c5 (w2.heap.size+2) (by simp) ?_))
         case c1=>exact World.news_of_block (qb _ _ _ (by simp))
         case c3=>unfold maxLen;(try simp only[List.length_nil,List.length_append,List.length_singleton]);omega
         case c4=>(try simp only[List.length_nil,List.length_append,List.length_singleton]);omega
         case c5=>simp;omega
         intro g3 cp3 w3 hown3 hgrow3 hat3 hlt3
         have hN:=HRR.out.push hk24 (HBW.out _ _) (m:=(T,false,0)) (by simpa using hown3) hgrow3 HG0.out hd0 hl0
         clear hown1 hown3 hgrow3 hat3
         go_wp2
         go_roundw
         case rel=>exact⟨k+1,_,by go_num,hN⟩
         case measure=>simp[intOf];omega
   ·go_wp2_with fail
    refine bodyPost_ret (v:=mdV m.1 m.2.1 m.2.2) (by simp[results,Tryz.results23,go_sem,hres,hlt0];done) rfl ⟨m,rfl,(HRR.out.good m (by simp)).1,(HRR.out.good m (by simp)).2,?_,?_⟩
    ·have h1:=HRR.out.tot;have h2:=zke (ms:=ini++[m]) (m:=m) (by simp);omega
    ·exact (((HRR.out.below.setCell (Nat.le_refl _) _).setCell (Nat.le_refl _) _).setCell (Nat.le_refl _) _)
  ·go_wp2_with fail
   refine bodyPost_ret (v:=mdV m.1 m.2.1 m.2.2) (by simp[results,Tryz.results23,go_sem,hres,hlt0];done) rfl ⟨m,rfl,(HRR.out.good m (by simp)).1,(HRR.out.good m (by simp)).2,?_,?_⟩
   ·have h1:=HRR.out.tot;have h2:=zke (ms:=ini++[m]) (m:=m) (by simp);omega
   ·exact (((HRR.out.below.setCell (Nat.le_refl _) _).setCell (Nat.le_refl _) _).setCell (Nat.le_refl _) _)
end Go.Proofs.YtiganlkabilblaaGreatDoor
