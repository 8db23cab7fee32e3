import Derived.Test.YtiganlkabilblaaGreatDoorVL27
import Derived.Test.YtiganlkabilblaaGreatDoorVL14
import Derived.Test.YtiganlkabilblaaGreatDoorVL25
import Derived.Test.YtiganlkabilblaaGreatDoorVL29
import Derived.BigQuiet
import Derived.Test.YtiganlkabilblaaGreatDoorVL24
import Derived.Laws.OwnMore
set_option linter.all false
set_option maxHeartbeats 64000000
set_option maxRecDepth 100000
namespace Go.Proofs.YtiganlkabilblaaGreatDoor
open Go.RowKit Thk
attribute [local go_sem ↓] Go.wp_at_zero Go.wp_at_succ
section
variable {w0 : World} {B gb tb eb ec H : Nat} {vx vr : Value} {ps : List (RE × Value × Value)} {rs : List (z7 × Nat)} {s : ByteArray} {rbs : List Nat}
theorem Stt.low {w w':World} (h:Stt w0 tb eb ec vx vr ps rs s rbs w) (tlt:tb<H) (elt:eb<H) (rlt:∀ b ∈ rbs,b<H) (wle:w0.heap.size≤H) (hs:w.heap.size≤w'.heap.size) (hb:∀ b,b<H→w'.heap[b]? = w.heap[b]?):Stt w0 tb eb ec vx vr ps rs s rbs w':=by
 obtain⟨M,h1,h2⟩:=h
 refine⟨M,⟨Nat.le_trans h1.size hs,fun b hb'=>by rw[hb b (by omega)];exact h1.old b hb',by rw[hb _ tlt];exact h1.blk,Nat.lt_of_lt_of_le h1.elt hs,fun i hi=>?_,fun i hi=>?_,h1.nodup,h1.rge,h1.tn,h1.en⟩,h2⟩
 ·rw[World.cell?_of_block (a:=⟨eb,i,none⟩) (hb eb elt)];exact h1.ends i hi
 ·rw[hb _ (rlt _ (List.getElem_mem hi))];exact h1.row i hi
end
def K0 (x:Nat × Nt):List Nod:=(0,0,x.1,0)::zY 1 x.2
def Yw (t:List UInt8) (s:ByteArray) (B:Nat) (w':World) (v c:Value):Prop:=∃ res,Zo t res∧match res with
  | .error (er,_)=>v = .slice none 0 0∧c = .int .i64 er
  | .ok (g,_)=>if 200<s.size then v = .slice none 0 0∧c = .int .i64 1 else ∃ o,(∀ h : 0<g.length,Ev g s.data.toList (.C g[0].choice) 0 o)∧c = .int .i64 0∧(match o with
   | none=>v = .slice none 0 0
   | some x=>∃ a cp,v = .slice a (K0 x).length cp∧w'.ownsRow B 60 4 (.slice a (K0 x).length cp) (K0 x).length ((K0 x).flatMap ZZ))
def qF (t:List UInt8) (s:ByteArray) (w:World) (e:Ending) (w':World):Prop:=Below w.heap.size w w'∧∃ v c,e = .returned (.tuple #[v,c])∧Yw t s w.heap.size w' v c
theorem qj {g:List ze} {E:List Bool} (hE:JF g E) (hgl:g.length≤20) {inp:z7} (hi:inp.length≤200) {x:Nat × Nt} (h:∀ h : 0<g.length,Ev g inp (.C g[0].choice) 0 (some x)):szN x.2≤4000:=by
 have h1:=Ev.few hE (h hE.pos) (hE.good 0 hE.pos)
 have h2:g.length * inp.length≤20 * 200:=Nat.mul_le_mul hgl hi
 omega
end Go.Proofs.YtiganlkabilblaaGreatDoor
