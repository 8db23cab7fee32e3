import Derived.Test.YtiganlkabilblaaGreatDoorVL13
import Derived.Test.YtiganlkabilblaaGreatDoorVL18
import Derived.Deep.RegionHeldLaw
import Derived.Deep.AppendLies
set_option linter.all false
set_option maxHeartbeats 64000000
set_option maxRecDepth 100000
namespace Thk
abbrev Nod:=Nat × Nat × Nat × Nat
def zY:Nat→Nt→List Nod
 | _,.nil=>[]
 | d,.use i a b m=>(i,a,b,d)::zY (d+1) m
 | d,.pair a b=>zY d a++zY d b
def szN:Nt→Nat
 | .nil=>0
 | .use _ _ _ m=>szN m+1
 | .pair a b=>szN a+szN b
theorem zax (a b:Nt):szN (jn a b)=szN a+szN b:=by
 cases a<;>cases b<;>simp[jn,szN]
theorem YS:∀ (d:Nat) (m:Nt),(zY d m).length=szN m
 | _,.nil=>rfl
 | d,.use _ _ _ m=>by simp[zY,szN,YS (d+1) m]
 | d,.pair a b=>by simp[zY,szN,YS d a,YS d b]
end Thk
namespace Go.Proofs.YtiganlkabilblaaGreatDoor
open Thk
theorem zbm (M:Mat) (n i:Nat) (hi:Wm M n i i=false) (h:i<n):cnt M n i+1≤n:=by
 have:cnt M n i<((List.range n).filter (fun _=>true)).length:=qV _ (fun _ _ _=>rfl) ⟨i,by simpa using h,rfl,hi⟩
 rw[List.filter_eq_self.2 (fun _ _=>rfl),List.length_range] at this
 exact this
def Vy (F:z7→Bool):Ex→List z7
 | .P p=>Zy F p
 | .Q p=>Zy F p
 | .I p _=>Zy F p
 | .T t=>JR F t
 | .S s _=>Q2 F s
 | .C c=>ZC F c
def Y2:Ex→Nat
 | .S _ acc=>szN acc
 | _=>0
def Kc (R F k e:Nat):Nat:=if e=k then 0 else F+R * (e - k - 1)
theorem Uk {R F F' k e1 e:Nat} (h1:k≤e1) (h2:e1≤e) (hF:e1=k→F'=F) (hR:e1≠k→F'≤R):Kc R F k e1+Kc R F' e1 e≤Kc R F k e:=by
 unfold Kc
 by_cases ha:e1=k
 ·subst ha
  rw[if_pos rfl,hF rfl];simp
 ·rw[if_neg ha,if_neg (show ¬ e=k by omega)]
  have hr:=hR ha
  by_cases hb:e=e1
  ·subst hb
   rw[if_pos rfl];simp
  ·rw[if_neg hb]
   obtain⟨x,rfl⟩:∃ x,e1=k+1+x:=⟨e1 - k - 1,by omega⟩
   obtain⟨y,rfl⟩:∃ y,e=(k+1+x)+1+y:=⟨e - (k+1+x) - 1,by omega⟩
   have a1:k+1+x - k - 1=x:=by omega
   have a2:k+1+x+1+y - (k+1+x) - 1=y:=by omega
   have a3:k+1+x+1+y - k - 1=x+1+y:=by omega
   rw[a1,a2,a3,Nat.mul_add,Nat.mul_add,Nat.mul_one]
   omega
theorem Ev.cntN {g:List ze} {inp:z7} {E:List Bool} (hE:JF g E) {x:Ex} {k:Nat} {r:Out} (h:Ev g inp x k r):k≤inp.length→Y8 (zg g) E x→∀ F,(∀ b ∈ Vy (Eb (zg g) E) x,cnt (Za (zg g) E g) g.length (idx0 (zg g) b)+1≤F)→∀ e m,r=some (e,m)→szN m≤Y2 x+Kc g.length F k e:=by
 have hR:∀ b,cnt (Za (zg g) E g) g.length (idx0 (zg g) b)+1≤g.length:=fun b=>by
  have hl:idx0 (zg g) b<g.length:=by
   have:=YU (names:=zg g) b (by rw[Q8];exact hE.pos)
   rw[Q8] at this;exact this
  exact zbm _ _ _ (hE.left _ hl) hl
 induction h with
 | cnil=>intro _ _ F _ e m h;cases h
 | chit _ ih=>
  intro hk hg F hF e m h
  simp only[Y8,Jh] at hg
  simp only[Vy,ZC] at hF
  have:=ih hk hg.1 F (fun b hb=>hF b (List.mem_append_left _ hb)) e m h
  simpa [Y2,szN] using this
 | cmiss _ _ _ ih=>
  intro hk hg F hF e m h
  simp only[Y8,Jh] at hg
  simp only[Vy,ZC] at hF
  exact ih hk hg.2 F (fun b hb=>hF b (List.mem_append_right _ hb)) e m h
 | snil=>intro _ _ F _ e m h;cases h;simp[Y2]
 | sfail=>intro _ _ F _ e m h;cases h
 | @sstep t s acc k e1 m1 r h1 h2 ih1 ih2=>
  intro hk hg F hF e m h
  simp only[Y8,Ym] at hg
  simp only[Vy,Q2] at hF
  have l1:=h1.le hk _ _ rfl
  have l2:=h2.le l1.2 _ _ h
  have a1:=ih1 hk hg.1 F (fun b hb=>hF b (List.mem_append_left _ hb)) _ _ rfl
  simp only[Y2,Nat.zero_add] at a1
  by_cases hek:e1=k
  ·have hem:=h1.empty hE hk hg.1 m1 (by rw[hek])
   simp only[J7] at hem
   have a2:=ih2 l1.2 hg.2 F (fun b hb=>hF b (List.mem_append_right _ (by rw[if_pos hem];exact hb))) e m h
   simp only[Y2,zax] at a2 ⊢
   have:=Uk (R:=g.length) (F:=F) (F':=F) l1.1 l2.1 (fun _=>rfl) (fun h=>absurd hek h)
   omega
  ·have a2:=ih2 l1.2 hg.2 g.length (fun b _=>hR b) e m h
   simp only[Y2,zax] at a2 ⊢
   have:=Uk (R:=g.length) (F:=F) (F':=g.length) l1.1 l2.1 (fun h=>absurd h hek) (fun _=>Nat.le_refl _)
   omega
 | tplain _ ih=>
  intro hk hg F hF e m h
  simp only[Y8,YT] at hg
  exact ih hk hg.2.2.1 F hF e m h
 | tand _ ih=>
  intro _ _ F _ e m h
  unfold Ja at h
  split at h<;>cases h
  simp[szN]
 | tnot _ ih=>
  intro _ _ F _ e m h
  unfold Ja at h
  split at h<;>cases h
  simp[szN]
 | iplain _ ih=>exact ih
 | @imaybe p k r _ ih=>
  intro hk hg F hF e m h
  cases r with
  | none=>cases h;simp[szN]
  | some x=>exact ih hk hg F hF e m h
 | @istar p k r _ ih=>
  intro hk hg F hF e m h
  cases r with
  | none=>cases h;simp[szN]
  | some x=>exact ih hk hg F hF e m h
 | iplus _ ih=>exact ih
 | qno=>intro _ _ F _ e m h;cases h
 | qlast _ _ ih1 _=>exact ih1
 | @qmore p k e1 m1 e2 m2 h1 h2 ih1 ih2=>
  intro hk hg F hF e m h
  have l1:=h1.le hk _ _ rfl
  have l2:=h2.le l1.2 _ _ rfl
  cases h
  have a1:=ih1 hk hg F hF _ _ rfl
  simp only[Y2,Nat.zero_add,zax] at a1 ⊢
  by_cases hek:e1=k
  ·have a2:=ih2 l1.2 hg F hF _ _ rfl
   simp only[Y2,Nat.zero_add] at a2
   have:=Uk (R:=g.length) (F:=F) (F':=F) l1.1 l2.1 (fun _=>rfl) (fun h=>absurd hek h)
   omega
  ·have a2:=ih2 l1.2 hg g.length (fun b _=>hR b) _ _ rfl
   simp only[Y2,Nat.zero_add] at a2
   have:=Uk (R:=g.length) (F:=F) (F':=g.length) l1.1 l2.1 (fun h=>absurd h hek) (fun _=>Nat.le_refl _)
   omega
 | @pname b k r hlt hc hv ih=>
  intro hk hg F hF e m h
  cases r with
  | none=>cases h
  | some x=>
   obtain⟨e',m'⟩:=x
   have hFb:=hF b (by simp[Vy,Zy])
   have a:=ih hk (hE.good _ hlt) (cnt (Za (zg g) E g) g.length (idx0 (zg g) b)) (fun b' hb'=>by
    have hl:idx0 (zg g) b'<g.length:=by
     have:=YU (names:=zg g) b' (by rw[Q8];exact hE.pos)
     rw[Q8] at this;exact this
    have hd:Za (zg g) E g (idx0 (zg g) b) (idx0 (zg g) b')=true:=(KJ hlt (by rw[Q8];exact hE.pos)).2 (List.mem_map.2 ⟨b',hb',rfl⟩)
    exact Vu hE.left hl hd) e' m' rfl
   simp only[Y2,Nat.zero_add] at a ⊢
   unfold QZ at h
   simp only[] at h
   split at h
   ·rename_i hke
    cases h
    simp only[szN]
    unfold Kc at a ⊢
    rw[if_neg (by omega)] at a ⊢
    omega
   ·cases h
    simp[szN]
 | plit _=>
  intro _ _ F _ e m h
  unfold Ya at h
  split at h<;>cases h
  simp[szN]
 | pcls _=>
  intro _ _ F _ e m h
  unfold Qj at h
  split at h
  ·cases h
  ·split at h<;>cases h
   simp[szN]
 | pany=>
  intro _ _ F _ e m h
  unfold Qj at h
  split at h
  ·cases h
  ·split at h<;>cases h
   simp[szN]
 | pgroup _ ih=>exact ih
theorem Ev.few {g:List ze} {inp:z7} {E:List Bool} (hE:JF g E) {c:Z5} {e:Nat} {m:Nt} (h:Ev g inp (.C c) 0 (some (e,m))) (hc:Jh (zg g) E c):szN m≤g.length * inp.length:=by
 have hR:∀ b,cnt (Za (zg g) E g) g.length (idx0 (zg g) b)+1≤g.length:=fun b=>by
  have hl:idx0 (zg g) b<g.length:=by
   have:=YU (names:=zg g) b (by rw[Q8];exact hE.pos)
   rw[Q8] at this;exact this
  exact zbm _ _ _ (hE.left _ hl) hl
 have h1:=h.cntN hE (Nat.zero_le _) hc g.length (fun b _=>hR b) e m rfl
 have h2:=(h.le (Nat.zero_le _) e m rfl).2
 simp only[Y2,Nat.zero_add] at h1
 refine Nat.le_trans h1 ?_
 unfold Kc
 split
 ·simp
 ·rename_i he
  have:g.length+g.length * (e - 0 - 1)=g.length * e:=by
   obtain⟨y,rfl⟩:∃ y,e=y+1:=⟨e - 1,by omega⟩
   simp[Nat.mul_add];omega
  rw[this]
  exact Nat.mul_le_mul_left _ h2
end Go.Proofs.YtiganlkabilblaaGreatDoor
namespace Go.Proofs.YtiganlkabilblaaGreatDoor
open Go.RowKit Thk
attribute [local go_sem ↓] Go.wp_at_zero Go.wp_at_succ
theorem Tryz.infoNode:(Tryz.prog.info? 60).map (fun i=>(i.zero,i.size,i.bytes))=some (some (.agg #[.int .i64 0,.int .i64 0,.int .i64 0,.int .i64 0]),4,32):=by kernel_rfl
theorem Tryz.methodListU (h:Value) (w:World):(Go.method 476 108 h "thicket/match.list").run Tryz.prog w = .ok (81,h) w:=by kernel_rfl
theorem Tryz.methodListP (h:Value) (w:World):(Go.method 476 342 h "thicket/match.list").run Tryz.prog w = .ok (260,h) w:=by kernel_rfl
def ZZ (x:Nod):List Value:=[.int .i64 x.1,.int .i64 x.2.1,.int .i64 x.2.2.1,.int .i64 x.2.2.2]
abbrev YE (v:Value) (d:Nat):Obj:=.cells #[v,.int .i64 d] 170 (0,0)
abbrev usO (i x y:Nat) (v:Value):Obj:=.cells #[.int .i64 i,.int .i64 x,.int .i64 y,v] 108 (0,0)
structure Lsg (w:World) (lb B:Nat) (a:Option Addr) (c:Nat) (xs:List Nod) (d:Nat):Prop where
 blk:w.heap[lb]? = some (YE (.slice a xs.length c) d)
 row:w.ownsRow B 60 4 (.slice a xs.length c) xs.length (xs.flatMap ZZ)
structure KpL (lb:Nat) (ob:Option Nat) (w w':World):Prop where
 os:w'.os=w.os
 tape:w'.tape=w.tape
 output:w'.output=w.output
 size:w.heap.size≤w'.heap.size
 block:∀ b,b<w.heap.size→b≠lb→some b≠ob→w'.heap[b]? = w.heap[b]?
abbrev obS (a:Option Addr) (n c:Nat):Option Nat:=(Value.slice a n c).ownBlock
def JJ (lb B:Nat) (a:Option Addr) (c:Nat) (xs ys:List Nod) (d:Nat) (w w':World):Prop:=∃ a' c',Lsg w' lb B a' c' (xs++ys) d∧KpL lb (obS a xs.length c) w w'∧(obS a' (xs++ys).length c'=obS a xs.length c∨∃ g,obS a' (xs++ys).length c'=some g∧w.heap.size≤g)
theorem KpL.of_below {lb:Nat} {ob:Option Nat} {w w':World} (h:Below w.heap.size w w'):KpL lb ob w w':=⟨h.os,h.tape,h.output,h.size,fun b hb _ _=>h.block b hb⟩
theorem KpL.trans {lb:Nat} {ob ob1:Option Nat} {w w1 w2:World} (h:KpL lb ob w w1) (h1:KpL lb ob1 w1 w2) (ho:ob1=ob∨∃ g,ob1=some g∧w.heap.size≤g):KpL lb ob w w2:=by
 refine⟨h1.os.trans h.os,h1.tape.trans h.tape,h1.output.trans h.output,Nat.le_trans h.size h1.size,fun b hb hn hr=>?_⟩
 rw[h1.block b (Nat.lt_of_lt_of_le hb h.size) hn,h.block b hb hn hr]
 rcases ho with rfl | ⟨g,rfl,hg⟩
 ·exact hr
 ·intro e;have:=Option.some.inj e;omega
theorem KpL.set {lb o:Nat} {ob:Option Nat} {w w1:World} (h:KpL lb ob w w1) (v:Value):KpL lb ob w (w1.setCell ⟨lb,o,none⟩ v):=
 ⟨h.os,h.tape,h.output,by simpa [World.setCell] using h.size,fun b hb hn hr=>by rw[Below.heap_setCell _ _ _ _ hn];exact h.block b hb hn hr⟩
theorem KpL.grown {lb:Nat} {ob:Option Nat} {X w6:World} {O:Obj} (h:(X.alloc O).grownBy w6 ob):KpL lb ob X w6:=by
 have hs:=h.size
 simp at hs
 exact⟨h.os,h.tape,h.output,by omega,fun b hb _ hr=>by rw[h.block b (by simp;omega) hr,zm _ _ hb]⟩
theorem Lsg.ne {w:World} {lb B:Nat} {a:Option Addr} {c:Nat} {xs:List Nod} {d:Nat} (h:Lsg w lb B a c xs d):some lb≠obS a xs.length c:=by
 intro e
 obtain⟨cur,hc⟩:=Zr h.row e.symm
 rw[h.blk] at hc
 simp at hc
theorem Lsg.kp {w w':World} {lb B:Nat} {a:Option Addr} {c:Nat} {xs:List Nod} {d:Nat} (h:Lsg w lb B a c xs d) (hb:Below w.heap.size w w'):Lsg w' lb B a c xs d:=
 ⟨by rw[hb.block _ (zd h.blk)];exact h.blk,Zv h.row hb⟩
theorem Lsg.depth {w:World} {lb B:Nat} {a:Option Addr} {c:Nat} {xs:List Nod} {d:Nat} (h:Lsg w lb B a c xs d) (d':Nat):Lsg (w.setCell ⟨lb,1,none⟩ (.int .i64 d')) lb B a c xs d':=by
 refine⟨by rw[zo h.blk];rfl,Z6 h.row (fun g hg=>Below.heap_setCell _ _ _ _ ?_)⟩
 rintro rfl
 exact h.ne hg.symm
theorem zbB (xs:List Nod) (z:Nod):(xs++[z]).flatMap ZZ=xs.flatMap ZZ++ZZ z:=by simp
theorem Lsg.push {X w6:World} {lb B:Nat} {a:Option Addr} {c:Nat} {xs:List Nod} {d g cap:Nat} {z:Nod} {O:Obj} (h:Lsg X lb B a c xs d) (hown:w6.ownsRow B 60 4 (.slice (some ⟨g,0,none⟩) (xs.length+1) cap) (xs.length+1) (xs.flatMap ZZ++ZZ z)) (hg:(X.alloc O).grownBy w6 (obS a xs.length c)):Lsg (w6.setCell ⟨lb,0,none⟩ (.slice (some ⟨g,0,none⟩) (xs.length+1) cap)) lb B (some ⟨g,0,none⟩) cap (xs++[z]) d:=by
 have hl:=zd h.blk
 have h6:w6.heap[lb]? = some (YE (.slice a xs.length c) d):=by
  rw[hg.block lb (by simp;omega) h.ne,zm _ _ hl];exact h.blk
 have hgl:lb≠g:=by
  rintro rfl
  obtain⟨cur,hc⟩:=Zr hown rfl
  rw[h6] at hc
  simp at hc
 refine⟨by rw[zo h6,List.length_append];rfl,?_⟩
 rw[zbB,List.length_append]
 exact Z6 hown (fun k hk=>Below.heap_setCell _ _ _ _ (by
  have e:g=k:=Option.some.inj hk
  subst e
  exact fun e=>hgl e.symm))
theorem JJ.trans {lb B:Nat} {a:Option Addr} {c:Nat} {xs ys zs:List Nod} {d:Nat} {w w1 w2:World} {a1:Option Addr} {c1:Nat} (hk:KpL lb (obS a xs.length c) w w1) (ho:obS a1 (xs++ys).length c1=obS a xs.length c∨∃ g,obS a1 (xs++ys).length c1=some g∧w.heap.size≤g) (h:JJ lb B a1 c1 (xs++ys) zs d w1 w2):JJ lb B a c xs (ys++zs) d w w2:=by
 obtain⟨a',c',h1,h2,h3⟩:=h
 rw[List.append_assoc] at h1 h3
 refine⟨a',c',h1,hk.trans h2 ho,?_⟩
 rcases h3 with e | ⟨g,e,hg⟩
 ·rcases ho with e2 | ⟨g,e2,hg⟩
  ·exact .inl (e.trans e2)
  ·exact .inr ⟨g,e.trans e2,hg⟩
 ·exact .inr ⟨g,e,Nat.le_trans hk.size hg⟩
def wfN:Nt→Prop
 | .nil=>True
 | .use _ _ _ m=>wfN m
 | .pair a b=>a≠.nil∧b≠.nil∧wfN a∧wfN b
theorem zdk {a b:Nt} (ha:wfN a) (hb:wfN b):wfN (jn a b):=by
 cases a<;>cases b<;>first | exact hb | exact ha | exact⟨by simp,by simp,ha,hb⟩
def accW:Ex→Prop
 | .S _ acc=>wfN acc
 | _=>True
theorem Ev.wf {g:List ze} {inp:z7} {x:Ex} {k:Nat} {r:Out} (h:Ev g inp x k r):accW x→∀ e m,r=some (e,m)→wfN m:=by
 induction h with
 | cnil=>intro _ e m h;cases h
 | chit _ ih=>intro _ e m h;exact ih trivial e m h
 | cmiss _ _ _ ih=>intro _ e m h;exact ih trivial e m h
 | snil=>intro ha e m h;cases h;exact ha
 | sfail=>intro _ e m h;cases h
 | sstep _ _ ih1 ih2=>intro ha e m h;exact ih2 (zdk ha (ih1 trivial _ _ rfl)) e m h
 | tplain _ ih=>exact ih
 | tand _ ih=>intro _ e m h;unfold Ja at h;split at h<;>cases h;exact trivial
 | tnot _ ih=>intro _ e m h;unfold Ja at h;split at h<;>cases h;exact trivial
 | iplain _ ih=>exact ih
 | @imaybe p k r _ ih=>
  intro ha e m h
  cases r with
  | none=>cases h;exact trivial
  | some x=>exact ih ha e m h
 | @istar p k r _ ih=>
  intro ha e m h
  cases r with
  | none=>cases h;exact trivial
  | some x=>exact ih ha e m h
 | iplus _ ih=>exact ih
 | qno=>intro _ e m h;cases h
 | qlast _ _ ih1 _=>exact ih1
 | qmore _ _ ih1 ih2=>intro ha e m h;cases h;exact zdk (ih1 ha _ _ rfl) (ih2 ha _ _ rfl)
 | @pname b k r hlt hc _ ih=>
  intro ha e m h
  cases r with
  | none=>cases h
  | some x=>
   obtain⟨e',m'⟩:=x
   have:=ih trivial e' m' rfl
   unfold QZ at h
   simp only[] at h
   split at h<;>cases h
   ·exact this
   ·exact trivial
 | plit=>intro _ e m h;unfold Ya at h;split at h<;>cases h;exact trivial
 | pcls=>
  intro _ e m h
  unfold Qj at h
  split at h
  ·cases h
  ·split at h<;>cases h;exact trivial
 | pany=>
  intro _ e m h
  unfold Qj at h
  split at h
  ·cases h
  ·split at h<;>cases h;exact trivial
 | pgroup _ ih=>exact ih
abbrev qu (f:FuncId) (v:Value) (m:Nt):Prop:=∀ (w:World) (lb B:Nat) (a:Option Addr) (c:Nat) (xs:List Nod) (d:Nat),Lsg w lb B a c xs d→B≤w.heap.size→xs.length+szN m≤1000000→d+szN m≤1000000→Calls Tryz.prog f #[v,z9 lb] w fun e w'=>e = .returned (.tuple #[])∧JJ lb B a c xs (zY d m) d w w'
def YL:Nt→Prop
 | .nil=>True
 | .use i x y m=>qu 81 (.agg #[.int .i64 i,.int .i64 x,.int .i64 y,ntV m]) (.use i x y m)
 | .pair p q=>qu 260 (.agg #[ntV p,ntV q]) (.pair p q)
end Go.Proofs.YtiganlkabilblaaGreatDoor
