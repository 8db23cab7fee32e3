import Derived.Test.YtiganlkabilblaaGreatDoorVL32
import Derived.Test.YtiganlkabilblaaGreatDoorVL23
import Derived.Deep.RegionHeldLaw
import Derived.Deep.RegionLaw
import Derived.Deep.DrawnRows
import Derived.Deep.AppendLies
import Derived.Deep.CutRange
set_option linter.all false
set_option maxHeartbeats 64000000
set_option maxRecDepth 100000
namespace Go.Proofs.YtiganlkabilblaaGreatDoor
open Go.RowKit
attribute [local go_sem ↓] Go.wp_at_zero Go.wp_at_succ
theorem Tryz.infoMade:(Tryz.prog.info? 43).map (fun i=>(i.zero,i.size,i.bytes))=some (some (.agg #[.string ⟨#[]⟩,.bool false,.int .i64 0]),3,32):=by kernel_rfl
abbrev Md:=List UInt8 × Bool × Nat
def mdC (m:Md):List Value:=[.string (bs m.1),.bool m.2.1,.int .i64 m.2.2]
theorem zjO (ms:List Md):(ms.flatMap mdC).length=ms.length * 3:=by
 induction ms with
 | nil=>rfl
 | cons x xs ih=>simp[mdC,ih] at *;omega
def tot (ms:List Md):Nat:=(ms.map (·.1.length)).sum
theorem zjQ (a b:List Md):tot (a++b)=tot a+tot b:=by simp[tot]
theorem zjR (m:Md):tot [m]=m.1.length:=by simp[tot]
def zjX (w:World) (a:Option Addr) (len:Nat):Prop:=∀ k,k<len→∃ x c,a=some x∧(x.add k).block<w.heap.size∧w.cell? (x.add k)=some (.int .i64 c)∧i64 c
structure zL (w:World) (k:Nat) (ms:List Md) (v:Value) (wr:World):Prop where
 own:wr.ownsRow (w.heap.size+1) 43 3 v ms.length (ms.flatMap mdC)
 below:Below w.heap.size w wr
 res:wr.heap[w.heap.size]? = some (mdO [] false 0)
 size:w.heap.size+1≤wr.heap.size
 pos : 0<ms.length
 cnt:ms.length≤k+1
 top:k≤24
 good:∀ m ∈ ms,Gx m.1 m.2.1 m.2.2∧m.2.2≤4
 tot:tot ms≤3+29 * k
theorem zL.last {w:World} {k:Nat} {ms:List Md} {v:Value} {wr:World} (h:zL w k ms v wr) :
  ∃ ini m g cp,ms=ini++[m]∧v = .slice (some ⟨g,0,none⟩) (ini.length+1) cp∧w.heap.size<g∧g<wr.heap.size∧wr.cell? ⟨g,ini.length * 3,none⟩=some (.string (bs m.1))∧wr.cell? ⟨g,ini.length * 3+1,none⟩=some (.bool m.2.1)∧wr.cell? ⟨g,ini.length * 3+2,none⟩=some (.int .i64 m.2.2)∧∀ o,wr.frozen? ⟨g,o,none⟩=false:=by
 have hp:=h.pos
 obtain⟨ini,m,rfl⟩:∃ ini m,ms=ini++[m]:=⟨ms.dropLast,ms.getLast (by intro e;rw[e] at hp;simp at hp),(List.dropLast_concat_getLast _).symm⟩
 have hop:=h.own
 rw[List.length_append,List.length_singleton] at hop
 obtain⟨g,cp,hv,hb,hlt⟩:=hop.form (by omega)
 rw[hv] at hop
 have hg:∀ j,j<3→wr.cell? ⟨g,ini.length * 3+j,none⟩=(mdC m)[j]? := by
  intro j hj
  rw[hop.cellAt _ (by omega),List.flatMap_append,List.getElem?_append_right (by rw[zjO];omega),zjO,show ini.length * 3+j - ini.length * 3=j from by omega]
  simp
 exact⟨ini,m,g,cp,rfl,hv,by omega,hlt,hg 0 (by decide),hg 1 (by decide),hg 2 (by decide),fun o=>hop.frozenAt o⟩
theorem zke {ms:List Md} {m:Md} (h:m ∈ ms):m.1.length≤tot ms:=by
 induction ms with
 | nil=>cases h
 | cons x xs ih=>
  have e:tot (x::xs)=x.1.length+tot xs:=by simp[tot]
  rcases List.mem_cons.1 h with rfl | h
  ·omega
  ·have:=ih h;omega
theorem zL.push {w:World} {k:Nat} {ms:List Md} {v:Value} {wr W w3:World} (h:zL w k ms v wr) (hk:k<24) (hb:Below wr.heap.size wr W) {v':Value} {m:Md} (hown:w3.ownsRow (w.heap.size+1) 43 3 v' (ms.length+1) (ms.flatMap mdC++mdC m)) (hg:W.grownBy w3 v.ownBlock)
  (hm:Gx m.1 m.2.1 m.2.2) (hd:m.2.2≤4) (hl:m.1.length≤29):zL w (k+1) (ms++[m]) v' w3:=by
 have hs:=h.size
 have hbs:=hb.size
 have hgs:=hg.size
 have hc:=h.cnt
 have ht:=h.tot
 refine⟨by simpa using hown,(h.below.trans (hb.mono (by omega))).grown hg (by omega) (fun g e=>by have:=(h.own.lt g e).1;omega),?_,by omega,by simp,by simp;omega,by omega,?_,?_⟩
 ·rw[hg.block _ (by omega) (fun e=>by have:=(h.own.lt _ e.symm).1;omega),hb.block _ (by omega)];exact h.res
 ·intro x hx
  rcases List.mem_append.1 hx with hx | hx
  ·exact h.good x hx
  ·simp at hx;subst hx;exact⟨hm,hd⟩
 ·rw[zjQ,zjR];omega
theorem zL.prev {w:World} {k:Nat} {ini:List Md} {q m:Md} {g cp:Nat} {wr:World} (h:zL w k (ini++[q]++[m]) (.slice (some ⟨g,0,none⟩) (ini.length+1+1) cp) wr) :
  wr.cell? ⟨g,ini.length * 3,none⟩=some (.string (bs q.1))∧wr.cell? ⟨g,ini.length * 3+1,none⟩=some (.bool q.2.1)∧wr.cell? ⟨g,ini.length * 3+2,none⟩=some (.int .i64 q.2.2):=by
 have hop:=h.own
 rw[show (ini++[q]++[m]).length=ini.length+1+1 by simp] at hop
 have hg:∀ j,j<3→wr.cell? ⟨g,ini.length * 3+j,none⟩=(mdC q)[j]? := by
  intro j hj
  rw[hop.cellAt _ (by omega),List.append_assoc,List.flatMap_append,List.getElem?_append_right (by rw[zjO];omega),zjO,show ini.length * 3+j - ini.length * 3=j from by omega,List.flatMap_append,List.getElem?_append_left (by simp[mdC];omega)]
  simp
 exact⟨hg 0 (by decide),hg 1 (by decide),hg 2 (by decide)⟩
theorem zkt (l:List Md):l=[]∨∃ i q,l=i++[q]:=by
 rcases List.eq_nil_or_concat l with h | ⟨i,q,h⟩
 ·exact .inl h
 ·exact .inr ⟨i,q,by simpa using h⟩
theorem zlb (ini:List Md) (m m':Md):((((ini++[m]).flatMap mdC).set (ini.length * 3) (.string (bs m'.1))).set (ini.length * 3+1) (.bool m'.2.1)).set (ini.length * 3+2) (.int .i64 m'.2.2)=(ini++[m']).flatMap mdC:=by
 have e:∀ m:Md,(ini++[m]).flatMap mdC=ini.flatMap mdC++mdC m:=by intro m;simp
 rw[e,e]
 have hl:=zjO ini
 rw[List.set_append_right _ _ (by omega),List.set_append_right _ _ (by omega),List.set_append_right _ _ (by omega),hl]
 simp[mdC]
theorem zL.setLast {w:World} {k:Nat} {ini:List Md} {m:Md} {g cp:Nat} {wr W:World} (h:zL w k (ini++[m]) (.slice (some ⟨g,0,none⟩) (ini.length+1) cp) wr) (hk:k<24) (hb:Below wr.heap.size wr W) {m':Md}
  (hm:Gx m'.1 m'.2.1 m'.2.2) (hd:m'.2.2≤4) (hl:m'.1.length≤m.1.length+29):zL w (k+1) (ini++[m']) (.slice (some ⟨g,0,none⟩) (ini.length+1) cp) (((W.setCell ⟨g,ini.length * 3,none⟩ (.string (bs m'.1))).setCell ⟨g,ini.length * 3+1,none⟩ (.bool m'.2.1)).setCell ⟨g,ini.length * 3+2,none⟩ (.int .i64 m'.2.2)):=by
 have hs:=h.size
 have hbs:=hb.size
 have hc:=h.cnt
 have ht:=h.tot
 have hgl:=(h.own.lt g rfl).1
 have hop:=Zv h.own hb
 rw[List.length_append,List.length_singleton] at hop hc
 have h3:=((((hop.stored (ini.length * 3) (.string (bs m'.1))).1).stored (ini.length * 3+1) (.bool m'.2.1)).1.stored (ini.length * 3+2) (.int .i64 m'.2.2)).1
 rw[zlb] at h3
 refine⟨by simpa using h3,(((h.below.trans (hb.mono (by omega))).setCell (show w.heap.size≤g by omega) _).setCell (show w.heap.size≤g by omega) _).setCell (show w.heap.size≤g by omega) _,?_,by simp;omega,by simp,by simp;omega,by omega,?_,?_⟩
 ·rw[Below.heap_setCell _ _ _ _ (show w.heap.size≠g by omega),Below.heap_setCell _ _ _ _ (show w.heap.size≠g by omega),Below.heap_setCell _ _ _ _ (show w.heap.size≠g by omega),hb.block _ (by omega)];exact h.res
 ·intro x hx
  rcases List.mem_append.1 hx with hx | hx
  ·exact h.good x (by simp[hx])
  ·simp at hx;subst hx;exact⟨hm,hd⟩
 ·rw[zjQ,zjR] at ht ⊢;omega
theorem zkg {w:World} {b o:Nat} {cs:Array Value} {e:TypeId} {fr:Nat × Nat} (h:w.heap[b]? = some (.cells cs e fr)) (u:Value):(w.setCell ⟨b,o,none⟩ u).heap[b]? = some (.cells (cs.setIfInBounds o u) e fr):=by
 simp[World.setCell,Array.getElem?_modify,h]
structure zk9 (wr wx:World) (b:Nat) (t:List UInt8) (e:Bool) (d:Nat):Prop where
 below:Below wr.heap.size wr wx
 blk:wx.heap[b]? = some (mdO t e d)
theorem zkW {wr w2:World} {O:Obj} {t:List UInt8} {e:Bool} {d:Nat} (h:Below (wr.alloc O).drew.heap.size (wr.alloc O).drew w2):zk9 wr (w2.alloc (.cells #[.string (bs t),.bool e,.int .i64 ↑d] 43)) w2.heap.size t e d:=by
 have hs:wr.heap.size+1≤w2.heap.size:=by have:=h.size;simpa using this
 refine⟨((zc wr O).drew.trans (h.mono ?_)).alloc (by omega) _,zk _ _⟩
 show wr.heap.size≤(wr.alloc O).heap.size
 simp
theorem zkX {wr w2:World} {O:Obj} {t:List UInt8} {e:Bool} {d:Nat} (h:Below ((wr.alloc O).alloc (.cells #[.string ⟨#[]⟩,.bool false,.int .i64 0] 43)).drew.heap.size ((wr.alloc O).alloc (.cells #[.string ⟨#[]⟩,.bool false,.int .i64 0] 43)).drew w2) :
  zk9 wr (((w2.setCell ⟨wr.heap.size+1,0,none⟩ (.string (bs t))).setCell ⟨wr.heap.size+1,1,none⟩ (.bool e)).setCell ⟨wr.heap.size+1,2,none⟩ (.int .i64 ↑d)) (wr.heap.size+1) t e d:=by
 have hb:w2.heap[wr.heap.size+1]? = some (.cells #[.string ⟨#[]⟩,.bool false,.int .i64 0] 43):=by
  rw[h.block _ (by show wr.heap.size+1<((wr.alloc O).alloc _).heap.size;simp)]
  show ((wr.alloc O).alloc _).heap[_]? = _
  exact qb _ _ _ (by simp)
 refine⟨((((((zc wr O).alloc (by simp) _).drew).trans (h.mono ?_)).setCell (Nat.le_succ _) _).setCell (Nat.le_succ _) _).setCell (Nat.le_succ _) _,zkg (zkg (zkg hb _) _) _⟩
 show wr.heap.size≤((wr.alloc O).alloc _).heap.size
 simp;omega
theorem zL.popTwo {w:World} {k:Nat} {ini:List Md} {q m:Md} {g cp:Nat} {wr W:World} (h:zL w k (ini++[q]++[m]) (.slice (some ⟨g,0,none⟩) (ini.length+1+1) cp) wr) (hb:Below wr.heap.size wr W) :
  W.ownsRow (w.heap.size+1) 43 3 (.slice (some ⟨g,0,none⟩) ini.length cp) ini.length (ini.flatMap mdC):=by
 have hop:=Zv h.own hb
 rw[show (ini++[q]++[m]).length=ini.length+1+1 by simp] at hop
 have h1:W.ownsRow (w.heap.size+1) 43 3 (.slice (some ⟨g,0,none⟩) (ini.length+1) cp) (ini.length+1) ((ini++[q]).flatMap mdC):=by
  refine ownsRow_pop (last:=mdC m) (by rw[zjO];simp) ?_
  simpa using hop
 refine ownsRow_pop (last:=mdC q) (by rw[zjO]) ?_
 simpa using h1
theorem zL.pushTwo {w:World} {k:Nat} {ini:List Md} {q m:Md} {g cp:Nat} {wr W w3:World} (h:zL w k (ini++[q]++[m]) (.slice (some ⟨g,0,none⟩) (ini.length+1+1) cp) wr) (hk:k<24) (hb:Below wr.heap.size wr W) {v':Value} {m':Md} (hown:w3.ownsRow (w.heap.size+1) 43 3 v' (ini.length+1) (ini.flatMap mdC++mdC m')) (hg:W.grownBy w3 (some g))
  (hm:Gx m'.1 m'.2.1 m'.2.2) (hd:m'.2.2≤4) (hl:m'.1.length≤q.1.length+m.1.length+29):zL w (k+1) (ini++[m']) v' w3:=by
 have hs:=h.size
 have hbs:=hb.size
 have hgs:=hg.size
 have hc:=h.cnt
 have ht:=h.tot
 have hgl:=(h.own.lt g rfl).1
 simp only[List.length_append,List.length_singleton] at hc
 refine⟨by simpa using hown,(h.below.trans (hb.mono (by omega))).grown hg (by omega) (fun g' e=>by cases e;omega),?_,by omega,by simp,by simp;omega,by omega,?_,?_⟩
 ·rw[hg.block _ (by omega) (fun e=>by cases e;omega),hb.block _ (by omega)];exact h.res
 ·intro x hx
  rcases List.mem_append.1 hx with hx | hx
  ·exact h.good x (by simp[hx])
  ·simp at hx;subst hx;exact⟨hm,hd⟩
 ·rw[zjQ,zjQ,zjR,zjR] at ht
  rw[zjQ,zjR];omega
theorem zle {w:World} {base:Nat} {e:TypeId} {size g n c:Nat} {xs:List Value} (h:w.ownsRow base e size (.slice (some ⟨g,0,none⟩) n c) n xs):n≤c:=by
 rcases h.2 with ⟨hv,_⟩ | ⟨g',cap',cur,hv,_,_,hc,_⟩
 ·cases hv
 ·cases hv;exact hc
theorem zL.cap {w:World} {k:Nat} {ini:List Md} {q m:Md} {g cp:Nat} {wr:World} (h:zL w k (ini++[q]++[m]) (.slice (some ⟨g,0,none⟩) (ini.length+1+1) cp) wr):ini.length+1+1≤cp:=by
 have hop:=h.own
 rw[show (ini++[q]++[m]).length=ini.length+1+1 by simp] at hop
 exact zle hop
theorem zjV {p:Prop} (h:p):Hid p:=h
theorem zjS (j:Nat) (hj:j<10):∃ (e:Bool) (d:Nat),Gx (zO.getD j []) e d∧d≤4∧(zO.getD j []).length≤29∧(((zO.getD j [] == [40,41])=true∧e=true∧d=1)∨((zO.getD j [] == [40,41])=false∧e=false∧d=0)):=by
 by_cases h9:j=9
 ·subst h9;exact⟨true,1,zkF,by decide,by decide,.inl ⟨by decide,rfl,rfl⟩⟩
 ·refine⟨false,0,zki j (by omega),by decide,?_,.inr ⟨?_,rfl,rfl⟩⟩
  ·have:j=0∨j=1∨j=2∨j=3∨j=4∨j=5∨j=6∨j=7∨j=8:=by omega
   rcases this with rfl | rfl | rfl | rfl | rfl | rfl | rfl | rfl | rfl<;>decide
  ·have:j=0∨j=1∨j=2∨j=3∨j=4∨j=5∨j=6∨j=7∨j=8:=by omega
   rcases this with rfl | rfl | rfl | rfl | rfl | rfl | rfl | rfl | rfl<;>decide
theorem qf (m:Md):∀ u ∈ mdC m,u.oneCell'=true:=by
 intro u hu
 simp[mdC] at hu
 rcases hu with rfl | rfl | rfl<;>rfl
def zkA (w:World) (e:Ending) (w':World):Prop:=e = .returned (.slice (some ⟨w.heap.size,0,none⟩) 10 10)∧Below w.heap.size w w'∧w.heap.size<w'.heap.size∧∀ j,j<10→w'.cell? ⟨w.heap.size,j,none⟩=some (.string (bs (zO.getD j [])))
theorem zjW (w:World):Calls Tryz.prog 54 #[] w fun e w'=>zkA w e w':=by
 go_enter Tryz.func54,Tryz.ntmps54
 go_wp2
 go_ret
 refine⟨rfl,zc w _,by simp,?_⟩
 intro j hj
 have:j=0∨j=1∨j=2∨j=3∨j=4∨j=5∨j=6∨j=7∨j=8∨j=9:=by omega
 rw[z8 (zk w _)]
 rcases this with rfl | rfl | rfl | rfl | rfl | rfl | rfl | rfl | rfl | rfl<;>rfl
end Go.Proofs.YtiganlkabilblaaGreatDoor
