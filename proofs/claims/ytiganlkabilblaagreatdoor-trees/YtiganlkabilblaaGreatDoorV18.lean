import Derived.Test.YtiganlkabilblaaGreatDoorV12
import Derived.BigQuiet
import Derived.Deep.CutRange
import Derived.Test.YtiganlkabilblaaGreatDoorV17
import Derived.Laws.StructEq
import Derived.Test.YtiganlkabilblaaGreatDoorV13
import Derived.Defers
import Derived.RegionTactic
import Derived.BigRegion
set_option linter.all false
set_option maxHeartbeats 64000000
set_option maxRecDepth 100000
namespace Go.Proofs.YtiganlkabilblaaGreatDoor
open Go.RowKit
attribute [local go_sem ↓] Go.wp_at_zero Go.wp_at_succ
abbrev gramO (vx vr:Value):Obj:=.cells #[vx,vr] 85 (0,0)
structure GM (w:World) (B gb:Nat) (vx vr:Value) (ps:List (Thk.RE × Value × Value)) (rs:List (Thk.Bytes × Nat)):Prop where
 blk:w.heap[gb]? = some (gramO vx vr)
 ex:w.ownsRow B 149 5 vx ps.length (ps.flatMap exC)
 ru:w.ownsRow B 90 2 vr rs.length (rs.flatMap ruC)
 items:∀ p ∈ ps,Items w B p.2.1 p.1.items
 parts:∀ p ∈ ps,Ints w B p.2.2 p.1.parts
theorem GM.lt {w:World} {B gb:Nat} {vx vr:Value} {ps:List (Thk.RE × Value × Value)} {rs:List (Thk.Bytes × Nat)} (h:GM w B gb vx vr ps rs):gb<w.heap.size:=za3 h.blk
theorem GM.kept {w w':World} {B gb:Nat} {vx vr:Value} {ps:List (Thk.RE × Value × Value)} {rs:List (Thk.Bytes × Nat)} (h:GM w B gb vx vr ps rs) (hb:∀ k,k<w.heap.size→w'.heap[k]? = w.heap[k]?):GM w' B gb vx vr ps rs:=
 ⟨by rw[hb gb h.lt];exact h.blk,zah h.ex (fun b e=>hb b (h.ex.lt b e).2),zah h.ru (fun b e=>hb b (h.ru.lt b e).2),fun p hp=>zah (h.items p hp) (fun b e=>hb b ((h.items p hp).lt b e).2),fun p hp=>zah (h.parts p hp) (fun b e=>hb b ((h.parts p hp).lt b e).2)⟩
theorem GM.below {w w':World} {B gb:Nat} {vx vr:Value} {ps:List (Thk.RE × Value × Value)} {rs:List (Thk.Bytes × Nat)} (h:GM w B gb vx vr ps rs) (hb:Below w.heap.size w w'):GM w' B gb vx vr ps rs:=h.kept hb.block
theorem GM.exAt {w:World} {B gb:Nat} {vx vr:Value} {ps:List (Thk.RE × Value × Value)} {rs:List (Thk.Bytes × Nat)} (h:GM w B gb vx vr ps rs) (hn : 0<ps.length) :
  ∃ xg xc,vx = .slice (some ⟨xg,0,none⟩) ps.length xc∧B≤xg∧xg<w.heap.size∧ps.length≤maxLen:=by
 have hex:=h.ex
 rcases hex.2 with ⟨_,h0⟩ | ⟨g,cap,cur,rfl,hB,hg,h1,h2,_⟩
 ·omega
 ·exact⟨g,cap,rfl,hB,za3 hg,by omega⟩
theorem GM.exCells {w:World} {B gb:Nat} {vr:Value} {ps:List (Thk.RE × Value × Value)} {rs:List (Thk.Bytes × Nat)} {xg n xc:Nat} (h:GM w B gb (.slice (some ⟨xg,0,none⟩) n xc) vr ps rs) :
  (∀ o,w.frozen? ⟨xg,o,none⟩=false) ∧
   ∀ k (hk:k<ps.length),w.cell? ⟨xg,k * 5,none⟩=some (.int .i64 ps[k].1.kind)∧w.cell? ⟨xg,k * 5+1,none⟩=some ps[k].2.1∧w.cell? ⟨xg,k * 5+2,none⟩=some (.string ⟨ps[k].1.text.toArray⟩)∧w.cell? ⟨xg,k * 5+3,none⟩=some (.int .i64 ps[k].1.rule)∧w.cell? ⟨xg,k * 5+4,none⟩=some ps[k].2.2:=by
 have hex:=h.ex
 have hv:n=ps.length:=by
  rcases hex.2 with ⟨h0,_⟩ | ⟨g,cap,cur,h0,_⟩
  ·cases h0
  ·cases h0;rfl
 subst hv
 refine⟨fun o=>hex.frozenAt o,fun k hk=>?_⟩
 have hc:∀ j,j<5→w.cell? ⟨xg,k * 5+j,none⟩=(exC ps[k])[j]? := fun j hj=>by rw[hex.cellAt _ (by omega),exC_get _ _ _ hk hj]
 exact⟨hc 0 (by decide),hc 1 (by decide),hc 2 (by decide),hc 3 (by decide),hc 4 (by decide)⟩
theorem ruC_get (ps:List (Thk.Bytes × Nat)) (i j:Nat) (hi:i<ps.length) (hj:j<2):(ps.flatMap ruC)[i * 2+j]? = (ruC ps[i])[j]? := by
 induction ps generalizing i with
 | nil=>simp at hi
 | cons p ps ih=>
  have hl:(ruC p).length=2:=rfl
  cases i with
  | zero=>
   simp only[List.flatMap_cons,Nat.zero_mul,Nat.zero_add,List.getElem_cons_zero]
   rw[List.getElem?_append_left (by omega)]
  | succ i=>
   simp only[List.flatMap_cons,List.getElem_cons_succ]
   rw[List.getElem?_append_right (by omega),hl,show (i+1) * 2+j - 2=i * 2+j from by omega]
   exact ih i (by simpa using hi)
theorem GM.ruAt {w:World} {B gb:Nat} {vx vr:Value} {ps:List (Thk.RE × Value × Value)} {rs:List (Thk.Bytes × Nat)} (h:GM w B gb vx vr ps rs) (hn : 0<rs.length) :
  ∃ rg rc,vr = .slice (some ⟨rg,0,none⟩) rs.length rc∧B≤rg∧rg<w.heap.size:=by
 have hex:=h.ru
 rcases hex.2 with ⟨_,h0⟩ | ⟨g,cap,cur,rfl,hB,hg,h1,h2,_⟩
 ·omega
 ·exact⟨g,cap,rfl,hB,za3 hg⟩
theorem GM.ruCells {w:World} {B gb:Nat} {vx:Value} {ps:List (Thk.RE × Value × Value)} {rs:List (Thk.Bytes × Nat)} {rg n rc:Nat} (h:GM w B gb vx (.slice (some ⟨rg,0,none⟩) n rc) ps rs) :
  ∀ k (hk:k<rs.length),w.cell? ⟨rg,k * 2,none⟩=some (.string ⟨rs[k].1.toArray⟩)∧w.cell? ⟨rg,k * 2+1,none⟩=some (.int .i64 rs[k].2):=by
 have hex:=h.ru
 have hv:n=rs.length:=by
  rcases hex.2 with ⟨h0,_⟩ | ⟨g,cap,cur,h0,_⟩
  ·cases h0
  ·cases h0;rfl
 subst hv
 intro k hk
 have hc:∀ j,j<2→w.cell? ⟨rg,k * 2+j,none⟩=(ruC rs[k])[j]? := fun j hj=>by rw[hex.cellAt _ (by omega),ruC_get _ _ _ hk hj]
 exact⟨hc 0 (by decide),hc 1 (by decide)⟩
theorem GM.setRule {w:World} {B gb:Nat} {vr:Value} {ps:List (Thk.RE × Value × Value)} {rs:List (Thk.Bytes × Nat)} {xg n xc:Nat} (h:GM w B gb (.slice (some ⟨xg,0,none⟩) n xc) vr ps rs) {i:Nat} (hi:i<ps.length) (r:Int) :
  GM (w.setCell ⟨xg,i * 5+3,none⟩ (.int .i64 r)) B gb (.slice (some ⟨xg,0,none⟩) n xc) vr (ps.set i ({ ps[i].1 with rule:=r },ps[i].2)) rs:=by
 have c:=Chg.set xg (i * 5+3) (.int .i64 r) w
 have hex:=h.ex
 have hv:n=ps.length:=by
  rcases hex.2 with ⟨h0,_⟩ | ⟨g,cap,cur,h0,_⟩
  ·cases h0
  ·cases h0;rfl
 subst hv
 obtain⟨cs,hxb⟩:=zaQ hex (b:=xg) rfl
 have hng:gb≠xg:=by
  intro e1;subst e1
  rw[h.blk] at hxb;simp at hxb
 have hst:=(hex.stored (i * 5+3) (.int .i64 r)).1
 rw[exC_set ps i 3 hi (by decide) (.int .i64 r) ({ ps[i].1 with rule:=r },ps[i].2) rfl] at hst
 have hmem:∀ p ∈ ps.set i ({ ps[i].1 with rule:=r },ps[i].2),p ∈ ps∨p=({ ps[i].1 with rule:=r },ps[i].2):=fun p hp=>List.mem_or_eq_of_mem_set hp
 refine⟨by rw[c.same gb h.lt hng];exact h.blk,by rw[List.length_set];exact hst,zaa c h.ru (zab h.ru hxb (by decide)),fun p hp=>?_,fun p hp=>?_⟩
 ·rcases hmem p hp with hp | rfl
  ·exact zaa c (h.items p hp) (zab (h.items p hp) hxb (by decide))
  ·have:=h.items ps[i] (List.getElem_mem hi)
   exact zaa c this (zab this hxb (by decide))
 ·rcases hmem p hp with hp | rfl
  ·exact zaa c (h.parts p hp) (zab (h.parts p hp) hxb (by decide))
  ·have:=h.parts ps[i] (List.getElem_mem hi)
   exact zaa c this (zab this hxb (by decide))
def rf (names:List Thk.Bytes) (b:Thk.Bytes) (k:Nat):Int:=if (names.drop k).contains b then ((k+(names.drop k).idxOf b:Nat):Int) else -1
theorem rf_step (names:List Thk.Bytes) (b:Thk.Bytes) (k:Nat) (hk:k<names.length):rf names b k=if names[k]=b then (k:Int) else rf names b (k+1):=by
 unfold rf
 rw[List.drop_eq_getElem_cons hk]
 by_cases h:names[k]=b
 ·rw[if_pos h,if_pos (by simp[h])];simp[h]
 ·have hb:(b == names[k])=false:=by simpa using fun e=>h e.symm
  have hb':(names[k] == b)=false:=by simpa using h
  rw[if_neg h,List.contains_cons,hb,Bool.false_or,List.idxOf_cons,hb']
  simp only[cond_false]
  rw[show k+((names.drop (k+1)).idxOf b+1)=k+1+(names.drop (k+1)).idxOf b from by omega]
theorem rf_end (names:List Thk.Bytes) (b:Thk.Bytes) (k:Nat) (hk:names.length≤k):rf names b k = -1:=by
 unfold rf;rw[List.drop_eq_nil_of_le hk];rfl
def rfE (names:List Thk.Bytes) (e:Thk.RE) (k:Nat):Int:=if e.kind=4 then rf names e.text k else -1
def ruled (names:List Thk.Bytes) (p:Thk.RE × Value × Value):Thk.RE × Value × Value:=({ p.1 with rule:=rfE names p.1 0 },p.2)
structure NmAt (names:List Thk.Bytes) (ps qs:List (Thk.RE × Value × Value)) (i:Nat):Prop where
 len:qs.length=ps.length
 lo:∀ j,j<i→qs[j]? = (ps[j]?).map (ruled names)
 hi:∀ j,i≤j→qs[j]? = ps[j]?
theorem NmAt.next {names:List Thk.Bytes} {ps qs:List (Thk.RE × Value × Value)} {i:Nat} (h:NmAt names ps qs i) (hi:i<qs.length):NmAt names ps (qs.set i ({ qs[i].1 with rule:=rfE names qs[i].1 0 },qs[i].2)) (i+1):=by
 have e:=h.hi i (Nat.le_refl _)
 refine⟨by simp[h.len],?_,?_⟩
 ·intro j hj
  rw[List.getElem?_set]
  by_cases hij:i=j
  ·subst hij
   rw[if_pos rfl,if_pos hi,← e,List.getElem?_eq_getElem hi];rfl
  ·rw[if_neg hij];exact h.lo j (by omega)
 ·intro j hj
  rw[List.getElem?_set,if_neg (by omega)];exact h.hi j (by omega)
theorem NmAt.done {names:List Thk.Bytes} {ps qs:List (Thk.RE × Value × Value)} (h:NmAt names ps qs ps.length):qs=ps.map (ruled names):=by
 apply List.ext_getElem?
 intro j
 rw[List.getElem?_map]
 by_cases hj:j<ps.length
 ·exact h.lo j hj
 ·rw[h.hi j (by omega),List.getElem?_eq_none (by omega)];rfl
end Go.Proofs.YtiganlkabilblaaGreatDoor
namespace Go.Proofs.YtiganlkabilblaaGreatDoor
open Go.RowKit Thk
attribute [local go_sem ↓] Go.wp_at_zero Go.wp_at_succ
def ntV:Nt→Value
 | .nil=>.nilIface
 | .use i a b m=>.iface 108 (.agg #[.int .i64 i,.int .i64 a,.int .i64 b,ntV m])
 | .pair a b=>.iface 342 (.agg #[ntV a,ntV b])
def endO:Out→Nat
 | none=>0
 | some x=>x.1
def noteO:Out→Nt
 | none=>.nil
 | some x=>x.2
abbrev outV (r:Out):Value:=.agg #[.int .i64 (endO r),.bool r.isSome]
abbrev triV (r:Out):Value:=.agg #[.int .i64 (endO r),.bool r.isSome,ntV (noteO r)]
abbrev spotV (n k:Nat):Value:=.agg #[.int .i64 n,.int .i64 k]
theorem zdY (b:Bool) (n k:Int) (w:World):(Instr.checkKey b 10000 328 (.agg #[.int .i64 n,.int .i64 k])).run Tryz.prog w = .ok () w:=by kernel_rfl
theorem equal_spot (a b c d:Int) (w:World):(Op.equal 328 (.agg #[.int .i64 a,.int .i64 b]) (.agg #[.int .i64 c,.int .i64 d])).run Tryz.prog w = .ok (a == c && b == d) w:=by
 unfold Op.equal
 rw[show Op.maxDepth=9999+1 from rfl,run_equalIn_agg w 9999 328 _ _ (by kernel_rfl) (by kernel_rfl)]
 rw[show (Tryz.prog.fieldsOf 328).toList=[{ name := "expression", type:=3,offset:=0,embedded:=false,tag := "", pkgPath := "thicket/match", byteOffset:=0 },{ name := "place", type:=3,offset:=1,embedded:=false,tag := "", pkgPath := "thicket/match", byteOffset:=8 }] by kernel_rfl]
 have p1:∀ (x y:Int) (w:World) , (part 3 #[.int .i64 x,.int .i64 y] 0).run Tryz.prog w = .ok (.int .i64 x) w:=fun _ _ w=>by kernel_rfl
 have p2:∀ (x y:Int) (w:World) , (part 3 #[.int .i64 x,.int .i64 y] 1).run Tryz.prog w = .ok (.int .i64 y) w:=fun _ _ w=>by kernel_rfl
 have e1:∀ (x y:Int) (w:World),(Op.equalIn 9999 3 (.int .i64 x) (.int .i64 y)).run Tryz.prog w = .ok (x == y) w:=fun x y w=>run_equalIn_int w 9998 3 .i64 .i64 x y Tryz.underlying3
 simp only[Op.eqFields,Sem.run_bind,Sem.run_ite,p1,p2,e1,Result.andThen_ok,Sem.run_pure]
 cases (a == c)<;>cases (b == d)<;>simp
abbrev Memo:=List ((Nat × Nat) × Out)
def memoC (L:Memo):List (Value × Value):=L.map fun p=>(spotV p.1.1 p.1.2,triV p.2)
def zaK (L:Memo) (n k:Nat):Option Out:=(L.find? (fun p=>p.1.1 == n && p.1.2 == k)).map (·.2)
def MemoIs (w:World) (tb:Nat) (L:Memo):Prop:=∃ es clock,w.heap[tb]? = some (.map es clock)∧es.toList.map (fun x=>(x.key,x.val))=memoC L
theorem beq_cast (a b:Nat):((a:Int) == (b:Int))=(a == b):=by
 rw[Bool.eq_iff_iff,beq_iff_eq,beq_iff_eq];omega
theorem asking (n k:Nat) (w:World):∀ (es:List MapEntry) (L:Memo) (i:Nat),es.map (fun x=>(x.key,x.val))=memoC L →
  (Instr.findAsking 328 (spotV n k) es i).run Tryz.prog w=(match zaK L n k with
   | none=>.ok none w
   | some r=>.ok (some (i+L.findIdx (fun p=>p.1.1 == n && p.1.2 == k),triV r)) w)
 | [],L,i,h=>by
  have:L=[]:=by
   cases L with
   | nil=>rfl
   | cons a L=>simp[memoC] at h
  subst this
  simp[Instr.findAsking,zaK]
 | e::es,[],i,h=>by simp[memoC] at h
 | e::es,p::L,i,h=>by
  simp only[memoC,List.map_cons,List.cons.injEq,Prod.mk.injEq] at h
  obtain⟨⟨h1,h2⟩,h3⟩:=h
  have ih:=asking n k w es L (i+1) h3
  have heq:=equal_spot (n:Int) (k:Int) (p.1.1:Int) (p.1.2:Int) w
  simp only[Instr.findAsking,Sem.run_bind,h1]
  rw[heq]
  simp only[Result.andThen_ok,beq_cast]
  have hsw:(n == p.1.1 && k == p.1.2)=(p.1.1 == n && p.1.2 == k):=by
   rw[Bool.eq_iff_iff]
   simp only[Bool.and_eq_true,beq_iff_eq]
   constructor<;>rintro⟨a,b⟩<;>exact⟨a.symm,b.symm⟩
  rw[hsw]
  cases hb:(p.1.1 == n && p.1.2 == k) with
  | true=>
   simp only[if_true,Sem.run_pure,zaK,List.find?_cons,hb,List.findIdx_cons]
   simp[h2]
  | false=>
   simp only[Bool.false_eq_true,if_false,zaK,List.find?_cons,hb,List.findIdx_cons]
   rw[ih]
   simp only[zaK,cond_false]
   cases hm:Option.map (fun x=>x.2) (L.find? (fun p=>p.1.1 == n && p.1.2 == k)) with
   | none=>rfl
   | some r=>
    simp only[]
    rw[show i+1+L.findIdx (fun p=>p.1.1 == n && p.1.2 == k)=i+(L.findIdx (fun p=>p.1.1 == n && p.1.2 == k)+1) from by omega]
theorem finding (n k:Nat) (w:World) (es:List MapEntry) (L:Memo) (h:es.map (fun x=>(x.key,x.val))=memoC L) :
  (Instr.findKey 328 (spotV n k) es).run Tryz.prog w=(match zaK L n k with
   | none=>.ok none w
   | some r=>.ok (some (L.findIdx (fun p=>p.1.1 == n && p.1.2 == k),triV r)) w):=by
 unfold Instr.findKey
 simp only[Sem.run_bind,run_underlying Tryz.underlying328,Result.andThen_ok]
 cases es with
 | nil=>
  have:L=[]:=by
   cases L with
   | nil=>rfl
   | cons a L=>simp[memoC] at h
  subst this
  simp[Instr.findNow,zaK]
 | cons e es=>
  simp only[Instr.findNow,Instr.sameNow]
  have:=asking n k w (e::es) L 0 h
  rw[this]
  simp
theorem MemoIs.look {w:World} {tb:Nat} {L:Memo} (h:MemoIs w tb L) (n k:Nat) :
  (Instr.lookup 174 (.map (some tb)) (spotV n k) true).run Tryz.prog w = .ok (.tuple #[triV ((zaK L n k).getD none),.bool (zaK L n k).isSome]) w:=by
 obtain⟨es,clock,hb,hl⟩:=h
 have hz:∀ w,(zeroValue 231).run Tryz.prog w = .ok (.agg #[.int .i64 0,.bool false,.nilIface]) w:=fun w=>Tryz.zeroValue231 w
 have hck:=zdY es.isEmpty (n:Int) (k:Int) w
 have hfd:=finding n k w es.toList L hl
 cases hm:zaK L n k with
 | none=>
  rw[hm] at hfd
  simp only[] at hfd
  simp[Instr.lookup,run_underlying Tryz.underlying174,MapKept.run_getObj_map hb,hck,hfd,hz,Result.andThen,endO,noteO,ntV]
 | some r=>
  rw[hm] at hfd
  simp only[] at hfd
  simp[Instr.lookup,run_underlying Tryz.underlying174,MapKept.run_getObj_map hb,hck,hfd,Result.andThen]
abbrev putB (w:World) (b:Nat) (o:Obj):World:={ w with heap:=w.heap.setIfInBounds b o }
theorem MemoIs.put {w:World} {tb:Nat} {L:Memo} (h:MemoIs w tb L) (n k:Nat) (r:Out) (hn:zaK L n k=none) :
  ∃ o,(Instr.mapUpdate 174 (.map (some tb)) (spotV n k) (triV r)).run Tryz.prog w = .ok () (putB w tb o)∧MemoIs (putB w tb o) tb (L++[((n,k),r)]):=by
 obtain⟨es,clock,hb,hl⟩:=h
 have hck:=zdY false (n:Int) (k:Int) w
 have hfd:=finding n k w es.toList L hl
 rw[hn] at hfd
 simp only[] at hfd
 refine⟨.map (es.push { key:=spotV n k,val:=triV r,born:=clock }) (clock+1),?_,(es.push { key:=spotV n k,val:=triV r,born:=clock }),clock+1,?_,?_⟩
 ·simp[Instr.mapUpdate,run_underlying Tryz.underlying174,MapKept.run_getObj_map hb,hck,hfd,Result.andThen,MapKept.run_setObj_map _ hb]
 ·have hlt:=za7 hb
  show (w.heap.setIfInBounds tb _)[tb]? = _
  rw[Array.getElem?_setIfInBounds_self_of_lt hlt]
 ·rw[Array.toList_push,List.map_append,hl]
  simp[memoC]
end Go.Proofs.YtiganlkabilblaaGreatDoor
namespace Go.Proofs.YtiganlkabilblaaGreatDoor
open Thk
abbrev REv:=Nat→Nat→Option (Option Nat)
def seqR (F:REv):List Nat→Nat→Option (Option Nat)
 | [],k=>some (some k)
 | j::js,k=>match F j k with
  | none=>none
  | some none=>some none
  | some (some e)=>seqR F js e
def chR (F:REv):List Nat→Nat→Option (Option Nat)
 | [],_=>some none
 | j::js,k=>match F j k with
  | none=>none
  | some none=>chR F js k
  | some (some e)=>some (some e)
def repR (F:REv) (j:Nat):Nat→Option Nat→Nat→Option (Option Nat)
 | 0,_,_=>none
 | _+1,none,k=>some (some k)
 | c+1,some e,_=>match F j e with
  | none=>none
  | some n=>repR F j c n e
def zc0 (inp:Bytes) (e:RE) (k:Nat):Option Nat:=
 if e.kind=3 then (if k<inp.length then some (k+1) else none)
 else if e.kind=2 then (match inp[k]? with | none=>none | some c=>if zaT e.items c then some (k+1) else none)
 else if (e.items.map (·.1)).isPrefixOf (inp.drop k) then some (k+e.items.length) else none
def wrapR (F:REv) (cnt:Nat) (e:RE) (k:Nat):Option (Option Nat):=
 match F (e.parts.headD 0) k with
 | none=>none
 | some n=>
  if e.kind=7 then some (some (n.getD k))
  else if e.kind=10 then some (if n.isSome then some k else none)
  else if e.kind=11 then some (if n.isSome then none else some k)
  else if e.kind=9∧n=none then some none
  else repR F (e.parts.headD 0) cnt n k
def bodyR (names:List Bytes) (bodies:List Nat) (inp:Bytes) (F:REv) (cnt:Nat) (e:RE) (k:Nat):Option (Option Nat):=
 if e.kind≤3 then some (zc0 inp e k)
 else if e.kind=4 then F (bodies.getD (idx0 names e.text) 0) k
 else if e.kind=5 then seqR F e.parts k
 else if e.kind=6 then chR F e.parts k
 else wrapR F cnt e k
def okE (names:List Bytes) (e:RE):Bool:=decide (1≤e.kind) && decide (e.kind≤11) && decide (e.items.length≤20) && (e.kind != 4 || names.contains e.text)
def evR (xs:List RE) (names:List Bytes) (bodies:List Nat) (inp:Bytes):Nat→REv
 | 0,_,_=>none
 | f+1,i,k=>match xs[i]? with
  | none=>none
  | some e=>if okE names e then bodyR names bodies inp (evR xs names bodies inp f) f e k else none
def Le (F G:REv):Prop:=∀ i k v,F i k=some v→G i k=some v
theorem seqR_mono {F G:REv} (h:Le F G):∀ js k v,seqR F js k=some v→seqR G js k=some v
 | [],k,v,e=>e
 | j::js,k,v,e=>by
  simp only[seqR] at e ⊢
  cases hF:F j k with
  | none=>rw[hF] at e;cases e
  | some o=>
   rw[h j k o hF]
   rw[hF] at e
   cases o with
   | none=>exact e
   | some x=>exact seqR_mono h js x v e
theorem chR_mono {F G:REv} (h:Le F G):∀ js k v,chR F js k=some v→chR G js k=some v
 | [],k,v,e=>e
 | j::js,k,v,e=>by
  simp only[chR] at e ⊢
  cases hF:F j k with
  | none=>rw[hF] at e;cases e
  | some o=>
   rw[h j k o hF]
   rw[hF] at e
   cases o with
   | none=>exact chR_mono h js k v e
   | some x=>exact e
theorem repR_mono {F G:REv} (h:Le F G) (j:Nat):∀ c d o k v,c≤d→repR F j c o k=some v→repR G j d o k=some v
 | 0,_,_,_,_,_,e=>by simp[repR] at e
 | c+1,0,_,_,_,hc,_=>by omega
 | c+1,d+1,none,k,v,_,e=>by simpa [repR] using e
 | c+1,d+1,some x,k,v,hc,e=>by
  simp only[repR] at e ⊢
  cases hF:F j x with
  | none=>rw[hF] at e;cases e
  | some o=>
   rw[h j x o hF]
   rw[hF] at e
   exact repR_mono h j c d o x v (by omega) e
theorem wrapR_mono {F G:REv} (h:Le F G) {c d:Nat} (hc:c≤d) {e:RE} {k:Nat} {v:Option Nat} (hv:wrapR F c e k=some v):wrapR G d e k=some v:=by
 unfold wrapR at hv ⊢
 cases hF:F (e.parts.headD 0) k with
 | none=>rw[hF] at hv;cases hv
 | some o=>
  rw[h _ _ _ hF]
  rw[hF] at hv
  simp only[] at hv ⊢
  by_cases h7:e.kind=7
  ·rw[if_pos h7] at hv ⊢;exact hv
  rw[if_neg h7] at hv ⊢
  by_cases h10:e.kind=10
  ·rw[if_pos h10] at hv ⊢;exact hv
  rw[if_neg h10] at hv ⊢
  by_cases h11:e.kind=11
  ·rw[if_pos h11] at hv ⊢;exact hv
  rw[if_neg h11] at hv ⊢
  by_cases h9:e.kind=9∧o=none
  ·rw[if_pos h9] at hv ⊢;exact hv
  rw[if_neg h9] at hv ⊢
  exact repR_mono h _ c d _ _ _ hc hv
theorem bodyR_mono {names:List Bytes} {bodies:List Nat} {inp:Bytes} {F G:REv} (h:Le F G) {c d:Nat} (hc:c≤d) {e:RE} {k:Nat} {v:Option Nat} (hv:bodyR names bodies inp F c e k=some v):bodyR names bodies inp G d e k=some v:=by
 unfold bodyR at hv ⊢
 by_cases h3:e.kind≤3
 ·rw[if_pos h3] at hv ⊢;exact hv
 rw[if_neg h3] at hv ⊢
 by_cases h4:e.kind=4
 ·rw[if_pos h4] at hv ⊢;exact h _ _ _ hv
 rw[if_neg h4] at hv ⊢
 by_cases h5:e.kind=5
 ·rw[if_pos h5] at hv ⊢;exact seqR_mono h _ _ _ hv
 rw[if_neg h5] at hv ⊢
 by_cases h6:e.kind=6
 ·rw[if_pos h6] at hv ⊢;exact chR_mono h _ _ _ hv
 rw[if_neg h6] at hv ⊢
 exact wrapR_mono h hc hv
theorem evR_step (xs:List RE) (names:List Bytes) (bodies:List Nat) (inp:Bytes):∀ f,Le (evR xs names bodies inp f) (evR xs names bodies inp (f+1))
 | 0=>by intro i k v h;simp[evR] at h
 | f+1=>by
  intro i k v h
  simp only[evR] at h ⊢
  cases hx:xs[i]? with
  | none=>rw[hx] at h;cases h
  | some e=>
   rw[hx] at h
   simp only[] at h ⊢
   split at h
   ·rename_i ho;rw[if_pos ho];exact bodyR_mono (evR_step xs names bodies inp f) (Nat.le_succ f) h
   ·cases h
theorem zb7 {xs:List RE} {names:List Bytes} {bodies:List Nat} {inp:Bytes} {f d:Nat} (hf:f≤d):Le (evR xs names bodies inp f) (evR xs names bodies inp d):=by
  induction d with
  | zero => have : f = 0 := by omega
            subst this;intro i k v h;exact h
  | succ d ih=>
    by_cases h:f=d+1
    · subst h;intro i k v h;exact h
    · intro i k v hv;exact evR_step xs names bodies inp d i k v (ih (by omega) i k v hv)
theorem evR_det {xs:List RE} {names:List Bytes} {bodies:List Nat} {inp:Bytes} {f d i k:Nat} {v u:Option Nat} (h1:evR xs names bodies inp f i k=some v) (h2:evR xs names bodies inp d i k=some u):v=u:=by
 have a:=zb7 (Nat.le_max_left f d) i k v h1
 have b:=zb7 (Nat.le_max_right f d) i k u h2
 rw[a] at b
 exact Option.some.inj b
def DenI (xs:List RE) (i:Nat) (p:Piece) (b:UInt8):Prop:=(if b=0 then DenP xs i p else ∃ j,xs[i]? = some (wrapE (zae [b]) j)∧DenP xs j p)∧(b=0∨b=63∨b=42∨b=43)
def fin (r:Out):Option Nat:=r.map (·.1)
def Sim (xs:List RE) (names:List Bytes) (bodies:List Nat) (inp:Bytes):Ex→Nat→Out→Prop
  | .P p,k,r=>∀ i,DenP xs i p→∃ f,evR xs names bodies inp f i k=some (fin r)
  | .Q p, k, r => ∀ i, DenP xs i p → ∃ f n, (∀ d, f ≤ d → evR xs names bodies inp d i k = some n) ∧ (match r with
      | none=>n=none
      | some (e,_)=>n≠none∧∀ d c x,f≤d→f≤c→repR (evR xs names bodies inp d) i c n x=some (some e))
  | .I p b,k,r=>∀ i,DenI xs i p b→∃ f,evR xs names bodies inp f i k=some (fin r)
  | .T t,k,r=>∀ i,DenT xs i t→∃ f,evR xs names bodies inp f i k=some (fin r)
  | .S s _,k,r=>∀ is,DenS xs is s→∃ f,∀ d,f≤d→seqR (evR xs names bodies inp d) is k=some (fin r)
  | .C c,k,r=>∀ is,DenC xs is c→∃ f,∀ d,f≤d→chR (evR xs names bodies inp d) is k=some (fin r)
theorem zbK {xs:List RE} {names:List Bytes} {bodies:List Nat} {inp:Bytes} {i:Nat} {e:RE} (h:xs[i]? = some e) (ho:okE names e=true) (f k:Nat):evR xs names bodies inp (f+1) i k=bodyR names bodies inp (evR xs names bodies inp f) f e k:=by
 simp only[evR,h,ho,if_true]
theorem fin_name (i k:Nat) (r:Out):fin (zb2 i k r)=fin r:=by
 cases r with
 | none=>rfl
 | some x=>
  obtain⟨e,m⟩:=x
  unfold zb2 fin
  simp only[]
  split<;>rfl
theorem fin_byte (inp:Bytes) (k:Nat) (f:UInt8→Bool):fin (zaO inp k f)=match inp[k]? with
  | none=>none
  | some c=>if f c then some (k+1) else none:=by
 unfold zaO fin
 cases inp[k]? with
 | none=>rfl
 | some c=>simp only[];split<;>rfl
theorem sgn63:zae [63]=7:=by decide
theorem sgn42:zae [42]=8:=by decide
theorem sgn43:zae [43]=9:=by decide
theorem sgn38:zae [38]=10:=by decide
theorem sgn33:zae [33]=11:=by decide
theorem ze6 (names:List Bytes) {s j:Nat} (hs : 7≤s∧s≤11):okE names (wrapE s j)=true:=by
 have h4:(s != 4)=true:=by rw[bne_iff_ne];omega
 have h1:decide (1≤s)=true:=by rw[decide_eq_true_eq];omega
 have h2:decide (s≤11)=true:=by rw[decide_eq_true_eq];omega
 unfold okE wrapE
 simp only[h1,h2,h4]
 rfl
theorem zdU {xs:List RE} {names:List Bytes} {bodies:List Nat} {inp:Bytes} {i j s:Nat} (h:xs[i]? = some (wrapE s j)) (hs : 7≤s∧s≤11) (f k:Nat):evR xs names bodies inp (f+1) i k=wrapR (evR xs names bodies inp f) f (wrapE s j) k:=by
 rw[zbK h (ze6 _ hs)]
 unfold bodyR
 rw[if_neg (by simp only[wrapE];omega),if_neg (by simp only[wrapE];omega),if_neg (by simp only[wrapE];omega),if_neg (by simp only[wrapE];omega)]
theorem wrapR8 {F:REv} {c j k:Nat} {n:Option Nat} (h:F j k=some n):wrapR F c (wrapE 8 j) k=repR F j c n k:=by
 unfold wrapR
 simp[wrapE,h]
theorem wrapR9 {F:REv} {c j k:Nat} {n:Option Nat} (h:F j k=some n):wrapR F c (wrapE 9 j) k=if n=none then some none else repR F j c n k:=by
 unfold wrapR
 simp[wrapE,h]
theorem Ev.sim {g:List Rule} {inp:Bytes} {xs:List RE} {rs:List (Bytes × Nat)} (hR:DenR xs rs g) {x:Ex} {k:Nat} {r:Out} (h:Ev g inp x k r):Sim xs (rs.map (·.1)) (rs.map (·.2)) inp x k r:=by
 have hnames:rs.map (·.1)=za8 g:=DenR.names rs g hR
 induction h with
 | cnil=>
  intro is hd
  simp only[DenC] at hd
  subst hd
  exact⟨0,fun d _=>rfl⟩
 | @chit s c k x _ ih=>
  intro is hd
  simp only[DenC] at hd
  obtain⟨q,qs,ks,rfl,h1,h2,h3⟩:=hd
  obtain⟨f,hf⟩:=ih ks h2
  refine⟨f+1,fun d hd=>?_⟩
  obtain⟨d',rfl⟩:∃ d',d=d'+1:=⟨d - 1,by omega⟩
  simp only[chR]
  rw[zbK h1 (by simp[okE])]
  unfold bodyR
  rw[if_neg (by simp),if_neg (by simp),if_pos (by simp)]
  simp only[]
  rw[hf d' (by omega)]
  rfl
 | @cmiss s c k r _ _ ih1 ih2=>
  intro is hd
  simp only[DenC] at hd
  obtain⟨q,qs,ks,rfl,h1,h2,h3⟩:=hd
  obtain⟨f,hf⟩:=ih1 ks h2
  obtain⟨f2,hf2⟩:=ih2 qs h3
  refine⟨max f f2+1,fun d hd=>?_⟩
  obtain⟨d',rfl⟩:∃ d',d=d'+1:=⟨d - 1,by omega⟩
  simp only[chR]
  rw[zbK h1 (by simp[okE])]
  unfold bodyR
  rw[if_neg (by simp),if_neg (by simp),if_pos (by simp)]
  simp only[]
  rw[hf d' (by omega)]
  simp only[fin,Option.map_none]
  exact hf2 (d'+1) (by omega)
 | snil=>
  intro is hd
  simp only[DenS] at hd
  subst hd
  exact⟨0,fun d _=>rfl⟩
 | @sfail t s acc k _ ih=>
  intro is hd
  simp only[DenS] at hd
  obtain⟨q,qs,rfl,h1,h2⟩:=hd
  obtain⟨f,hf⟩:=ih q h1
  refine⟨f,fun d hd=>?_⟩
  simp only[seqR]
  rw[zb7 hd _ _ _ hf]
  rfl
 | @sstep t s acc k e m r _ _ ih1 ih2=>
  intro is hd
  simp only[DenS] at hd
  obtain⟨q,qs,rfl,h1,h2⟩:=hd
  obtain⟨f,hf⟩:=ih1 q h1
  obtain⟨f2,hf2⟩:=ih2 qs h2
  refine⟨max f f2,fun d hd=>?_⟩
  simp only[seqR]
  rw[zb7 (show f≤d by omega) _ _ _ hf]
  exact hf2 d (by omega)
 | @tplain p b k r _ ih=>
  intro i hd
  simp only[DenT] at hd
  obtain⟨i',j,h1,h2,h3,h4,h5⟩:=hd
  rw[if_pos trivial] at h1
  subst h1
  refine ih i ⟨?_,h4⟩
  by_cases hb:b=0
  ·rw[if_pos hb] at h2 ⊢;subst h2;exact h3
  ·rw[if_neg hb] at h2 ⊢;exact⟨j,h2,h3⟩
 | @tand p b k r _ ih=>
  intro i hd
  simp only[DenT] at hd
  obtain⟨i',j,h1,h2,h3,h4,h5⟩:=hd
  rw[if_neg (by decide)] at h1
  obtain⟨f,hf⟩:=ih i' ⟨by
   by_cases hb:b=0
   ·rw[if_pos hb] at h2 ⊢;subst h2;exact h3
   ·rw[if_neg hb] at h2 ⊢;exact⟨j,h2,h3⟩,h4⟩
  rw[sgn38] at h1
  refine⟨f+1,?_⟩
  rw[zdU h1 ⟨by omega,by omega⟩]
  unfold wrapR
  simp only[wrapE,List.headD_cons]
  rw[hf]
  simp only[]
  rw[if_neg (by decide)]
  simp only[if_true]
  unfold zb8 fin
  cases r<;>simp
 | @tnot p b k r _ ih=>
  intro i hd
  simp only[DenT] at hd
  obtain⟨i',j,h1,h2,h3,h4,h5⟩:=hd
  rw[if_neg (by decide)] at h1
  obtain⟨f,hf⟩:=ih i' ⟨by
   by_cases hb:b=0
   ·rw[if_pos hb] at h2 ⊢;subst h2;exact h3
   ·rw[if_neg hb] at h2 ⊢;exact⟨j,h2,h3⟩,h4⟩
  rw[sgn33] at h1
  refine⟨f+1,?_⟩
  rw[zdU h1 ⟨by omega,by omega⟩]
  unfold wrapR
  simp only[wrapE,List.headD_cons]
  rw[hf]
  simp only[]
  rw[if_neg (by decide),if_neg (by decide)]
  simp only[if_true]
  unfold zb8 fin
  cases r<;>simp
 | iplain _ ih=>
  intro i hd
  have:=hd.1
  rw[if_pos rfl] at this
  exact ih i this
 | @imaybe p k r _ ih=>
  intro i hd
  have:=hd.1
  rw[if_neg (by decide)] at this
  obtain⟨j,h1,h2⟩:=this
  obtain⟨f,hf⟩:=ih j h2
  rw[sgn63] at h1
  refine⟨f+1,?_⟩
  rw[zdU h1 ⟨by omega,by omega⟩]
  unfold wrapR
  simp only[wrapE,List.headD_cons]
  rw[hf]
  simp only[if_true]
  unfold zc6 fin
  cases r<;>simp
 | @istar p k r _ ih=>
  intro i hd
  have:=hd.1
  rw[if_neg (by decide)] at this
  obtain⟨j,h1,h2⟩:=this
  obtain⟨f,n,hf,hr⟩:=ih j h2
  rw[sgn42] at h1
  refine⟨f+1+1,?_⟩
  rw[zdU h1 ⟨by omega,by omega⟩,wrapR8 (hf (f+1) (by omega))]
  unfold zc6 fin
  cases r with
  | none=>
   simp only[] at hr
   subst hr
   simp[repR]
  | some x=>
   obtain⟨e,m⟩:=x
   simp only[] at hr
   rw[hr.2 (f+1) (f+1) k (by omega) (by omega)]
   simp
 | @iplus p k r _ ih=>
  intro i hd
  have:=hd.1
  rw[if_neg (by decide)] at this
  obtain⟨j,h1,h2⟩:=this
  obtain⟨f,n,hf,hr⟩:=ih j h2
  rw[sgn43] at h1
  refine⟨f+1+1,?_⟩
  rw[zdU h1 ⟨by omega,by omega⟩,wrapR9 (hf (f+1) (by omega))]
  unfold fin
  cases r with
  | none=>
   simp only[] at hr
   subst hr
   simp
  | some x=>
   obtain⟨e,m⟩:=x
   simp only[] at hr
   rw[if_neg hr.1,hr.2 (f+1) (f+1) k (by omega) (by omega)]
   simp
 | qno _ ih=>
  intro i hd
  obtain⟨f,hf⟩:=ih i hd
  exact⟨f,none,fun d h=>zb7 h _ _ _ hf,rfl⟩
 | @qlast p k e m _ _ ih1 ih2=>
  intro i hd
  obtain⟨f,hf⟩:=ih1 i hd
  obtain⟨f2,n2,hf2,hn2⟩:=ih2 i hd
  simp only[] at hn2
  subst hn2
  refine⟨max f f2+2,some e,fun d h=>zb7 (by omega) _ _ _ hf,by simp,?_⟩
  intro d c x h1 h2
  obtain⟨c',rfl⟩:∃ c',c=c'+1+1:=⟨c - 2,by omega⟩
  simp only[repR]
  rw[hf2 d (by omega)]
  simp[repR]
 | @qmore p k e m e2 m2 _ _ ih1 ih2=>
  intro i hd
  obtain⟨f,hf⟩:=ih1 i hd
  obtain⟨f2,n2,hf2,hn2⟩:=ih2 i hd
  simp only[] at hn2
  refine⟨max f f2+1,some e,fun d h=>zb7 (by omega) _ _ _ hf,by simp,?_⟩
  intro d c x h1 h2
  obtain⟨c',rfl⟩:∃ c',c=c'+1:=⟨c - 1,by omega⟩
  simp only[repR]
  rw[hf2 d (by omega)]
  exact hn2.2 d c' e (by omega) (by omega)
 | @pname b k r hlt hc _ ih=>
  intro i hd
  simp only[DenP] at hd
  have hb:=((DenR.get rs g hR).2 _ hlt).2
  simp only[DenP] at hb
  obtain⟨qs,hq1,hq2⟩:=hb
  obtain⟨f,hf⟩:=ih qs hq2
  refine⟨f+1+1,?_⟩
  rw[zbK hd (by rw[hnames];simp[okE] at hc ⊢;exact hc)]
  unfold bodyR
  rw[if_neg (by simp),if_pos (by simp)]
  simp only[]
  rw[hnames,zbK hq1 (by simp[okE])]
  unfold bodyR
  rw[if_neg (by simp),if_neg (by simp),if_neg (by simp),if_pos (by simp)]
  simp only[]
  rw[fin_name,← hnames]
  exact hf f (Nat.le_refl _)
 | @plit b k hb=>
  intro i hd
  simp only[DenP] at hd
  refine⟨1,?_⟩
  rw[zbK hd (by simp[okE];exact hb)]
  unfold bodyR
  rw[if_pos (by simp)]
  unfold zc0 zbL fin
  rw[if_neg (by simp),if_neg (by simp)]
  simp only[List.map_map,List.length_map]
  have:List.map ((fun x:Span=>x.1) ∘ fun c=>(c,c)) b=b:=by
   conv=>rhs;rw[← List.map_id b]
   apply List.map_congr_left
   intro a _;rfl
  rw[this]
  split<;>rfl
 | @pcls l k hb=>
  intro i hd
  simp only[DenP] at hd
  refine⟨1,?_⟩
  rw[zbK hd (by simp[okE];exact hb),fin_byte]
  unfold bodyR
  rw[if_pos (by simp)]
  unfold zc0
  rw[if_neg (by simp),if_pos (by simp)]
 | @pany k=>
  intro i hd
  simp only[DenP] at hd
  refine⟨1,?_⟩
  rw[zbK hd (by simp[okE]),fin_byte]
  unfold bodyR
  rw[if_pos (by simp)]
  unfold zc0
  rw[if_pos (by simp)]
  by_cases hk:k<inp.length
  ·rw[if_pos hk,List.getElem?_eq_getElem hk];rfl
  ·rw[if_neg hk,List.getElem?_eq_none (by omega)]
 | @pgroup c k r _ ih=>
  intro i hd
  simp only[DenP] at hd
  obtain⟨qs,h1,h2⟩:=hd
  obtain⟨f,hf⟩:=ih qs h2
  refine⟨f+1,?_⟩
  rw[zbK h1 (by simp[okE])]
  unfold bodyR
  rw[if_neg (by simp),if_neg (by simp),if_neg (by simp),if_pos (by simp)]
  exact hf f (Nat.le_refl _)
end Go.Proofs.YtiganlkabilblaaGreatDoor
namespace Go.Proofs.YtiganlkabilblaaGreatDoor
open Go.RowKit
attribute [local go_sem ↓] Go.wp_at_zero Go.wp_at_succ
theorem Ints.gen {w:World} {B:Nat} {v:Value} {ns:List Nat} (h:Ints w B v ns):∃ pa pc,v = .slice pa ns.length pc∧ns.length≤9223372036854775807∧∀ j (hj:j<ns.length),∃ pg,pa=some ⟨pg,0,none⟩∧pg<w.heap.size∧w.cell? ⟨pg,j,none⟩=some (.int .i64 ns[j]):=by
 have h':=h
 rcases h'.2 with ⟨rfl,h0⟩ | ⟨g,cap,cur,rfl,_,hg,h1,h2,_⟩
 ·exact⟨none,0,by rw[h0],by omega,fun j hj=>by omega⟩
 ·refine⟨_,cap,rfl,by unfold maxLen at h2;omega,fun j hj=>⟨g,rfl,za3 hg,?_⟩⟩
  have:=h.cellAt (g:=g) j (by omega)
  rw[this];simp[hj,intV]
theorem zcA {names:List Thk.Bytes} {e:Thk.RE} (hk:e.kind=4):rfE names e 0=if names.contains e.text then ((names.idxOf e.text:Nat):Int) else -1:=by
 unfold rfE rf;rw[if_pos hk];simp
structure Fits (ps:List (Thk.RE × Value × Value)) (rs:List (Thk.Bytes × Nat)):Prop where
 ex:∀ p ∈ ps,p.1.Fit ps.length
 ru:∀ r ∈ rs,r.2<ps.length
abbrev xsOf (ps:List (Thk.RE × Value × Value)):List Thk.RE:=ps.map (·.1)
abbrev nmOf (rs:List (Thk.Bytes × Nat)):List Thk.Bytes:=rs.map (·.1)
abbrev bdOf (rs:List (Thk.Bytes × Nat)):List Nat:=rs.map (·.2)
theorem GM.exp {w:World} {B gb:Nat} {vx vr:Value} {ps:List (Thk.RE × Value × Value)} {rs:List (Thk.Bytes × Nat)} {names:List Thk.Bytes} (h:GM w B gb vx vr (ps.map (ruled names)) rs) {i:Nat} (hi:i<ps.length) :
  ∃ (p:Thk.RE × Value × Value) (xg xc:Nat) (ia:Option Addr) (ic:Nat) (pa:Option Addr) (pc:Nat),ps[i]? = some p∧p ∈ ps∧vx = .slice (some ⟨xg,0,none⟩) ps.length xc∧xg<w.heap.size∧w.cell? ⟨xg,i * 5,none⟩=some (.int .i64 p.1.kind)∧w.cell? ⟨xg,i * 5+1,none⟩=some (.slice ia p.1.items.length ic)∧w.cell? ⟨xg,i * 5+2,none⟩=some (.string ⟨p.1.text.toArray⟩)∧w.cell? ⟨xg,i * 5+3,none⟩=some (.int .i64 (rfE names p.1 0))∧w.cell? ⟨xg,i * 5+4,none⟩=some (.slice pa p.1.parts.length pc) ∧
   ps.length≤9223372036854775807∧p.1.parts.length≤9223372036854775807∧∀ j (hj:j<p.1.parts.length),∃ pg,pa=some ⟨pg,0,none⟩∧pg<w.heap.size∧w.cell? ⟨pg,j,none⟩=some (.int .i64 p.1.parts[j]):=by
 obtain⟨xg,xc,rfl,hxB,hxl,hmx⟩:=h.exAt (by simp;omega)
 have hi':i<(ps.map (ruled names)).length:=by simpa using hi
 obtain⟨c0,c1,c2,c3,c4⟩:=h.exCells.2 i hi'
 have hpm:ps[i] ∈ ps:=List.getElem_mem hi
 have hrd : (ps.map (ruled names))[i]'hi' = ruled names ps[i] := by rw [List.getElem_map]
 rw[hrd] at c0 c1 c2 c3 c4
 have hmem:ruled names ps[i] ∈ ps.map (ruled names):=List.mem_map_of_mem hpm
 obtain⟨ia,ic,hvi⟩:=za9 (h.items _ hmem)
 obtain⟨pa,pc,hvp,hpn,hpc⟩:=(h.parts _ hmem).gen
 rw[hvi] at c1
 rw[hvp] at c4
 refine⟨ps[i],xg,xc,ia,ic,pa,pc,List.getElem?_eq_getElem hi,hpm,by rw[List.length_map],hxl,c0,c1,c2,c3,c4,by unfold maxLen at hmx;simp at hmx;omega,hpn,hpc⟩
theorem zb0 {w:World} {lb:Nat} {l:List Bool} (h:w.heap[lb]? = some (zaf l)) (j:Nat) (hj:j<l.length):w.cell? ⟨lb,j,none⟩=some (.bool (l.getD j false)):=by
 rw[za0 h]
 simp[hj,List.getD_eq_getElem?_getD]
theorem zdu (ps:List Thk.Span) (i j:Nat) (hi:i<ps.length) (hj:j<2):(ps.flatMap spanC)[i * 2+j]? = (spanC ps[i])[j]? := by
 induction ps generalizing i with
 | nil=>simp at hi
 | cons p ps ih=>
  have hl:(spanC p).length=2:=rfl
  cases i with
  | zero=>
   simp only[List.flatMap_cons,Nat.zero_mul,Nat.zero_add,List.getElem_cons_zero]
   rw[List.getElem?_append_left (by omega)]
  | succ i=>
   simp only[List.flatMap_cons,List.getElem_cons_succ]
   rw[List.getElem?_append_right (by omega),hl,show (i+1) * 2+j - 2=i * 2+j from by omega]
   exact ih i (by simpa using hi)
theorem Items.gen {w:World} {B:Nat} {v:Value} {rs:List Thk.Span} (h:Items w B v rs):∃ pa pc,v = .slice pa rs.length pc∧∀ j (hj:j<rs.length),∃ pg,pa=some ⟨pg,0,none⟩∧pg<w.heap.size∧w.cell? ⟨pg,j * 2,none⟩=some (.int .u8 rs[j].1.toNat)∧w.cell? ⟨pg,j * 2+1,none⟩=some (.int .u8 rs[j].2.toNat):=by
 have h':=h
 rcases h'.2 with ⟨rfl,h0⟩ | ⟨g,cap,cur,rfl,_,hg,h1,h2,_⟩
 ·exact⟨none,0,by rw[h0],fun j hj=>by omega⟩
 ·refine⟨_,cap,rfl,fun j hj=>⟨g,rfl,za3 hg,?_,?_⟩⟩
  ·have:=h.cellAt (g:=g) (j * 2+0) (by omega)
   rw[zdu _ _ _ hj (by decide)] at this;exact this
  ·have:=h.cellAt (g:=g) (j * 2+1) (by omega)
   rw[zdu _ _ _ hj (by decide)] at this;exact this
end Go.Proofs.YtiganlkabilblaaGreatDoor
namespace Thk
def small (t:Tok):Prop:=t.text.length≤20∧t.spans.length≤20
def Small (ts:List Tok):Prop:=∀ t ∈ ts,small t
mutual
def wtP:Piece→Nat
  | .name b=>b.length
  | .lit b=>2+2 * b.length
  | .cls l=>2+5 * l.length
  | .any=>1
  | .group c=>2+wtC c
def wtT:Term→Nat
  | .mk _ p _=>2+wtP p
def wtS:List Term→Nat
  | []=>2
  | t::s=>1+wtT t+wtS s
def wtC:List (List Term)→Nat
  | []=>1000000
  | [s]=>3+wtS s
  | s::c=>3+wtS s+wtC c
 end
theorem wtC_le (s:List Term) (c:List (List Term)):wtC (s::c)≤3+wtS s+wtC c:=by
 cases c with
 | nil=>simp only[wtC];omega
 | cons s2 c=>simp only[wtC];omega
theorem Small.tail {ts:List Tok} (h:Small ts):Small ts.tail:=fun t ht=>h t (List.mem_of_mem_tail ht)
theorem Small.ahead {ts:List Tok} (h:Small ts):Small (zao ts).2:=by
 unfold zao
 repeat' split
 all_goals first | exact h | exact h.tail
theorem Small.behind {ts:List Tok} (h:Small ts):Small (zak ts).2:=by
 unfold zak
 repeat' split
 all_goals first | exact h | exact h.tail
def WP1 (ts:List Tok) (r:Res Piece):Prop:=Small ts→∀ p rest,r = .ok p rest→wtP p+200 * rest.length+50≤200 * ts.length∧Small rest
def WP2 (ts:List Tok) (r:Res Term):Prop:=Small ts→∀ p rest,r = .ok p rest→wtT p+200 * rest.length+40≤200 * ts.length∧Small rest
def WP3 (ts:List Tok) (r:Res Seq):Prop:=Small ts→∀ p rest,r = .ok p rest→wtS p+200 * rest.length≤200 * ts.length+2∧Small rest
def WP4 (ts:List Tok) (r:Res zat):Prop:=Small ts→∀ p rest,r = .ok p rest→wtC p+200 * rest.length≤200 * ts.length+10∧Small rest
theorem ze3 {ts:List Tok} {c:UInt8} (h:(hd ts).kind = .sign c) : 1≤ts.length:=by
 cases ts with
 | nil=>simp[hd,badT] at h
 | cons t ts=>simp
theorem wp_plain {ts:List Tok} {p:Piece} (h:zad (hd ts)=some p):WP1 ts (.ok p ts.tail):=by
 intro hs p' rest e
 cases e
 cases ts with
 | nil=>simp[hd,zad,badT] at h
 | cons t ts=>
  have ht:=hs t (by simp)
  obtain⟨h1,h2⟩:=ht
  refine⟨?_,hs.tail⟩
  simp only[hd,List.headD_cons] at h
  unfold zad at h
  split at h
  ·cases h;simp[wtP];omega
  ·cases h;simp[wtP];omega
  ·cases h;simp[wtP];omega
  ·split at h
   ·cases h;simp[wtP];omega
   ·cases h
  ·cases h
theorem PChoice.wt {d:Nat} {ts:List Tok} {c:zat} {rest:List Tok} (h:PChoice d ts (.ok c rest)) (hs:Small ts):wtC c+200 * rest.length≤200 * ts.length+10∧Small rest:=by
 refine (PChoice.rec (motive_1:=fun _ ts r _=>WP1 ts r) (motive_2:=fun _ ts r _=>WP2 ts r) (motive_3:=fun _ ts r _=>WP3 ts r) (motive_4:=fun _ ts r _=>WP4 ts r) ?_ ?_ ?_ ?_ ?_ ?_ ?_ ?_ ?_ ?_ ?_ ?_ ?_ ?_ ?_ ?_ h:WP4 ts (.ok c rest)) hs c rest rfl
 ·intro d ts p h;exact wp_plain h
 ·intro d ts h h' hs p rest e;cases e
 ·intro ts h hs p rest e;cases e
 ·intro d ts c rest h1 h2 h3 h4 ih hs p rest' e
  cases e
  obtain⟨i1,i2⟩:=ih hs.tail _ _ rfl
  have n1:=ze3 h1
  have n2:=ze3 h4
  refine⟨?_,i2.tail⟩
  simp only[wtP,List.length_tail] at i1 ⊢
  omega
 ·intros;intro hs p rest e;cases e
 ·intros;intro hs p rest e;cases e
 ·intro d ts p rest h ih hs t rest' e
  cases e
  obtain⟨i1,i2⟩:=ih hs.ahead _ _ rfl
  have h1:=ahead_len ts
  have h2:=zeL rest
  refine⟨?_,i2.behind⟩
  simp only[wtT]
  omega
 ·intros;intro hs p rest e;cases e
 ·intro d ts h hs p rest e
  cases e
  refine⟨?_,hs⟩
  simp only[wtS]
  omega
 ·intro d ts t rest s rest' h1 h2 h3 ih1 ih2 hs p r e
  cases e
  obtain⟨i1,i2⟩:=ih1 hs _ _ rfl
  obtain⟨j1,j2⟩:=ih2 i2 _ _ rfl
  refine⟨?_,j2⟩
  simp only[wtS]
  omega
 ·intros;intro hs p rest e;cases e
 ·intros;intro hs p rest e;cases e
 ·intro d ts s rest h1 h2 ih hs p r e
  cases e
  obtain⟨i1,i2⟩:=ih hs _ _ rfl
  refine⟨?_,i2⟩
  simp only[wtC]
  omega
 ·intro d ts s rest c rest' h1 h2 h3 ih1 ih2 hs p r e
  cases e
  obtain⟨i1,i2⟩:=ih1 hs _ _ rfl
  obtain⟨j1,j2⟩:=ih2 i2.tail _ _ rfl
  have n1:=ze3 h2
  refine⟨?_,j2⟩
  have hw:=wtC_le s c
  simp only[List.length_tail] at *
  omega
 ·intros;intro hs p rest e;cases e
 ·intros;intro hs p rest e;cases e
theorem closes_le {l:Bytes} {n:Nat} {m:UInt8} {k:Nat} (h:zaH l n m k=true):k≤20:=by
 unfold zaH at h
 simp at h
 omega
theorem tokL_small (l:Bytes):small (tokL l):=by
 have hb:small badT:=⟨by simp[badT],by simp[badT]⟩
 cases l with
 | nil=>exact⟨by simp[tokL],by simp[tokL]⟩
 | cons c t=>
  simp only[tokL]
  split
  ·unfold nameT
   split
   ·exact hb
   ·refine⟨?_,by simp⟩
    rw[List.length_take];omega
  ·split
   ·exact⟨by simp,by simp⟩
   ·split
    ·unfold litT
     split
     ·rename_i h;exact⟨closes_le h,by simp⟩
     ·exact hb
    ·split
     ·unfold clsT
      split
      ·rename_i h;exact⟨by simp,closes_le h⟩
      ·exact hb
     ·split
      ·exact⟨by simp,by simp⟩
      ·exact hb
theorem zeE:∀ (f pos:Nat) (l:Bytes),Small (toksF f pos l)
 | 0,_,_=>by intro t ht;simp[toksF] at ht
 | f+1,pos,l=>by
  intro t ht
  simp only[toksF,List.mem_cons] at ht
  rcases ht with rfl | ht
  ·exact tokL_small _
  ·split at ht
   ·simp at ht
   ·exact zeE f _ _ t ht
theorem PRule.wt {n:Nat} {ts:List Tok} {r:Rule} {rest:List Tok} (h:PRule n ts (.ok r rest)) (hs:Small ts):wtC r.choice≤200 * ts.length+10∧r.name.length≤20∧rest.length≤ts.length∧Small rest:=by
 cases h with
 | ok hk _ _ hc=>
  obtain⟨i1,i2⟩:=hc.wt hs.tail.tail
  have hn:=hc.nc
  simp only[List.length_tail] at i1 hn
  refine⟨by simp only[];omega,?_,by omega,i2⟩
  cases ts with
  | nil=>simp[hd,badT]
  | cons t ts=>simp only[hd,List.headD_cons];exact (hs t (by simp)).1
theorem PGram.wt {n:Nat} {ts:List Tok} {g:List Rule} (h:PGram n ts (.ok g)) (hs:Small ts):∀ r ∈ g,wtC r.choice≤200 * ts.length+10∧r.name.length≤20:=by
 generalize hres:(Except.ok g:Except (Nat × Nat) (List Rule))=res at h
 induction h generalizing g with
 | last hr hk=>
  cases hres
  intro r hr'
  simp only[List.mem_singleton] at hr'
  subst hr'
  have:=hr.wt hs
  exact⟨this.1,this.2.1⟩
 | more hr hk _ ih=>
  cases hres
  intro r hr'
  have h1:=hr.wt hs
  rcases List.mem_cons.1 hr' with rfl | hr'
  ·exact⟨h1.1,h1.2.1⟩
  ·have:=ih h1.2.2.2 rfl r hr'
   omega
 | err hr=>cases hres
 | later _ _ _ _=>cases hres
theorem gram_wt {l:Bytes} {g:List Rule} (h:PGram 0 (toks l) (.ok g)) (hl:l.length≤2000):∀ r ∈ g,wtC r.choice≤500000∧r.name.length≤20:=by
 intro r hr
 have h1:=h.wt (zeE _ _ _) r hr
 have h2:=toks_len l
 omega
end Thk
namespace Go.Proofs.YtiganlkabilblaaGreatDoor
open Go.RowKit
attribute [local go_sem ↓] Go.wp_at_zero Go.wp_at_succ
theorem GM.exq {w:World} {B gb:Nat} {vx vr:Value} {ps:List (Thk.RE × Value × Value)} {rs:List (Thk.Bytes × Nat)} {names:List Thk.Bytes} (h:GM w B gb vx vr (ps.map (ruled names)) rs) {k:Nat} {e:Thk.RE} (hx:(xsOf ps)[k]? = some e) :
  ∃ (xg xc:Nat) (ia:Option Addr) (ic:Nat) (pa:Option Addr) (pc:Nat),k<ps.length∧vx = .slice (some ⟨xg,0,none⟩) ps.length xc∧xg<w.heap.size∧w.cell? ⟨xg,k * 5,none⟩=some (.int .i64 e.kind)∧w.cell? ⟨xg,k * 5+1,none⟩=some (.slice ia e.items.length ic)∧w.cell? ⟨xg,k * 5+2,none⟩=some (.string ⟨e.text.toArray⟩)∧w.cell? ⟨xg,k * 5+3,none⟩=some (.int .i64 (rfE names e 0))∧w.cell? ⟨xg,k * 5+4,none⟩=some (.slice pa e.parts.length pc) ∧
   ps.length≤9223372036854775807∧e.parts.length≤9223372036854775807∧(∀ j (hj:j<e.parts.length),∃ pg,pa=some ⟨pg,0,none⟩∧pg<w.heap.size∧w.cell? ⟨pg,j,none⟩=some (.int .i64 e.parts[j]))∧Items w B (.slice ia e.items.length ic) e.items:=by
 have hi:k<ps.length:=by
  have:=(List.getElem?_eq_some_iff.1 hx).1
  simpa using this
 have hep:e=ps[k].1:=by
  rw[List.getElem?_map,List.getElem?_eq_getElem hi] at hx
  simpa using hx.symm
 subst hep
 obtain⟨xg,xc,rfl,hxB,hxl,hmx⟩:=h.exAt (by simp;omega)
 have hi':k<(ps.map (ruled names)).length:=by simpa using hi
 obtain⟨c0,c1,c2,c3,c4⟩:=h.exCells.2 k hi'
 have hpm:ps[k] ∈ ps:=List.getElem_mem hi
 have hrd : (ps.map (ruled names))[k]'hi' = ruled names ps[k] := by rw [List.getElem_map]
 rw[hrd] at c0 c1 c2 c3 c4
 have hmem:ruled names ps[k] ∈ ps.map (ruled names):=List.mem_map_of_mem hpm
 obtain⟨ia,ic,hvi⟩:=za9 (h.items _ hmem)
 obtain⟨pa,pc,hvp,hpn,hpc⟩:=(h.parts _ hmem).gen
 have hit:=h.items _ hmem
 rw[hvi] at c1 hit
 rw[hvp] at c4
 exact⟨xg,xc,ia,ic,pa,pc,hi,by rw[List.length_map],hxl,c0,c1,c2,c3,c4,by unfold maxLen at hmx;simp at hmx;omega,hpn,hpc,hit⟩
theorem Items.below {w w':World} {B:Nat} {v:Value} {rs:List Thk.Span} (h:Items w B v rs) (hb:Below w.heap.size w w'):Items w' B v rs:=zaq h hb
end Go.Proofs.YtiganlkabilblaaGreatDoor
namespace Go.Proofs.YtiganlkabilblaaGreatDoor
open Go.RowKit Thk
def encR:Option Nat→Int
 | none=>-1
 | some e=>e
theorem encR_ne (v:Option Nat):encR v≠-2:=by
 cases v with
 | none=>simp[encR]
 | some e=>simp only[encR];omega
theorem seqR_le {F:REv} {n:Nat} (h:∀ i k e,F i k=some (some e)→k≤n→k≤e∧e≤n):∀ js k e,seqR F js k=some (some e)→k≤n→k≤e∧e≤n
 | [],k,e,hs,hk=>by simp[seqR] at hs;subst hs;exact⟨Nat.le_refl _,hk⟩
 | j::js,k,e,hs,hk=>by
  simp only[seqR] at hs
  split at hs
  ·cases hs
  ·cases hs
  ·rename_i e1 h1
   have a:=h j k e1 h1 hk
   have b:=seqR_le h js e1 e hs a.2
   omega
theorem chR_le {F:REv} {n:Nat} (h:∀ i k e,F i k=some (some e)→k≤n→k≤e∧e≤n):∀ js k e,chR F js k=some (some e)→k≤n→k≤e∧e≤n
 | [],k,e,hs,hk=>by simp[chR] at hs
 | j::js,k,e,hs,hk=>by
  simp only[chR] at hs
  split at hs
  ·cases hs
  ·exact chR_le h js k e hs hk
  ·rename_i e1 h1
   cases hs
   exact h j k _ h1 hk
theorem repR_le {F:REv} {n:Nat} (h:∀ i k e,F i k=some (some e)→k≤n→k≤e∧e≤n) (j:Nat):∀ c o k e,repR F j c o k=some (some e)→k≤n→(∀ x,o=some x→k≤x∧x≤n)→k≤e∧e≤n
 | 0,_,_,_,hs,_,_=>by simp[repR] at hs
 | c+1,none,k,e,hs,hk,_=>by simp[repR] at hs;subst hs;exact⟨Nat.le_refl _,hk⟩
 | c+1,some x,k,e,hs,hk,ho=>by
  simp only[repR] at hs
  have hx:=ho x rfl
  split at hs
  ·cases hs
  ·rename_i o2 h1
   have:=repR_le h j c o2 x e hs hx.2 (fun y hy=>by subst hy;exact h j x y h1 hx.2)
   omega
theorem bytesR_le {inp:Bytes} {e:RE} {k x:Nat} (h:zc0 inp e k=some x) (hk:k≤inp.length):k≤x∧x≤inp.length:=by
 unfold zc0 at h
 split at h
 ·split at h
  ·cases h;omega
  ·cases h
 ·split at h
  ·split at h
   ·cases h
   ·rename_i c hc
    have:=(List.getElem?_eq_some_iff.1 hc).1
    split at h
    ·cases h;omega
    ·cases h
  ·split at h
   ·rename_i hp
    cases h
    have:=(List.isPrefixOf_iff_prefix.1 hp).length_le
    rw[List.length_drop,List.length_map] at this
    omega
   ·cases h
theorem zbC {xs:List RE} {names:List Bytes} {bodies:List Nat} {inp:Bytes}:∀ f i k e,evR xs names bodies inp f i k=some (some e)→k≤inp.length→k≤e∧e≤inp.length
 | 0,_,_,_,h,_=>by simp[evR] at h
 | f+1,i,k,e,h,hk=>by
  have ih:=zbC (xs:=xs) (names:=names) (bodies:=bodies) (inp:=inp) f
  simp only[evR] at h
  split at h
  ·cases h
  ·rename_i x hx
   split at h
   rotate_left
   ·cases h
   unfold bodyR at h
   split at h
   ·exact bytesR_le (Option.some.inj h) hk
   ·split at h
    ·exact ih _ _ _ h hk
    ·split at h
     ·exact seqR_le ih _ _ _ h hk
     ·split at h
      ·exact chR_le ih _ _ _ h hk
      ·unfold wrapR at h
       split at h
       ·cases h
       ·rename_i n hn
        split at h
        ·have:=Option.some.inj h
         cases n with
         | none=>simp at this;subst this;exact⟨Nat.le_refl _,hk⟩
         | some y=>simp at this;subst this;exact ih _ _ _ hn hk
        ·split at h
         ·have:=Option.some.inj h
          split at this<;>cases this
          exact⟨Nat.le_refl _,hk⟩
         ·split at h
          ·have:=Option.some.inj h
           split at this<;>cases this
           exact⟨Nat.le_refl _,hk⟩
          ·split at h
           ·cases h
           ·exact repR_le ih _ _ _ _ _ h hk (fun y hy=>by subst hy;exact ih _ _ _ hn hk)
abbrev Tab:=Nat→Nat→Int
def rowI (n:Nat) (f:Nat→Int):List Int:=(List.range n).map f
def intsO (l:List Int):Obj:=.cells (l.map (Value.int .i64)).toArray 3 (0,0)
theorem rowI_set (n:Nat) (f:Nat→Int) (t:Nat) (u:Int):(rowI n f).set t u=rowI n (fun j=>if j=t then u else f j):=by
 apply List.ext_getElem
 ·simp[rowI]
 ·intro i h1 h2
  simp only[rowI,List.getElem_set,List.getElem_map,List.getElem_range]
  by_cases e:t=i
  ·subst e;simp
  ·have:¬ i=t:=fun h=>e h.symm
   simp[e,this]
theorem KpM.of_below {rbs:List Nat} {w w':World} (h:Below w.heap.size w w'):KpM rbs w.heap.size w w':=⟨h.os,h.tape,h.output,h.size,fun k hk _=>h.block k hk⟩
theorem KpM.mono {rbs:List Nat} {B B':Nat} {w w':World} (h:KpM rbs B w w') (hb:B'≤B):KpM rbs B' w w':=⟨h.os,h.tape,h.output,h.size,fun k hk hr=>h.block k (by omega) hr⟩
theorem KpM.go {rbs:List Nat} {w w1 w2:World} (h:KpM rbs w.heap.size w w1) (k:KpM rbs w1.heap.size w1 w2):KpM rbs w.heap.size w w2:=h.trans (k.mono h.size)
structure TrAt (w0 w:World) (tb eb ec:Nat) (vx vr:Value) (s:ByteArray) (rbs:List Nat) (M:Tab):Prop where
 size:w0.heap.size≤w.heap.size
 old:∀ b,b<w0.heap.size→w.heap[b]? = w0.heap[b]?
 blk:w.heap[tb]? = some (.cells #[vx,vr,.string s,.slice (some ⟨eb,0,none⟩) rbs.length ec] 161 (0,0))
 elt:eb<w.heap.size
 ends:∀ i (h:i<rbs.length),w.cell? ⟨eb,i,none⟩=some (.slice (some ⟨rbs[i],0,none⟩) (s.size+1) (s.size+1))
 row:∀ i (h:i<rbs.length),w.heap[rbs[i]]? = some (intsO (rowI (s.size+1) (M i)))
 nodup:rbs.Nodup
 rge:∀ b ∈ rbs,w0.heap.size≤b
 tn:tb ∉ rbs
 en:eb ∉ rbs
theorem TrAt.kept {w0 w w':World} {tb eb ec:Nat} {vx vr:Value} {s:ByteArray} {rbs:List Nat} {M:Tab} (h:TrAt w0 w tb eb ec vx vr s rbs M) (hb:Below w.heap.size w w'):TrAt w0 w' tb eb ec vx vr s rbs M:=by
 have hs:=h.size
 have hz:=hb.size
 refine⟨by omega,fun b hb'=>by rw[hb.block b (by omega)];exact h.old b hb',by rw[hb.block _ (za7 h.blk)];exact h.blk,by have:=h.elt;omega,fun i hi=>?_,fun i hi=>?_,h.nodup,h.rge,h.tn,h.en⟩
 ·rw[hb.cell (p:=⟨eb,i,none⟩) h.elt];exact h.ends i hi
 ·rw[hb.block _ (za7 (h.row i hi))];exact h.row i hi
theorem TrAt.at {w0 w:World} {tb eb ec:Nat} {vx vr:Value} {s:ByteArray} {rbs:List Nat} {M:Tab} (h:TrAt w0 w tb eb ec vx vr s rbs M) (i k:Nat) (hi:i<rbs.length) (hk:k≤s.size):w.cell? ⟨rbs[i],k,none⟩=some (.int .i64 (M i k)):=by
 rw[za0 (h.row i hi)]
 have:k<s.size+1:=by omega
 simp[rowI,this]
theorem intsO_set (l:List Int) (t:Nat) (u:Int):(Obj.cells ((l.map (Value.int .i64)).toArray.setIfInBounds t (.int .i64 u)) 3 (0,0))=intsO (l.set t u):=by
 unfold intsO
 simp[List.map_set]
theorem TrAt.set {w0 w:World} {tb eb ec:Nat} {vx vr:Value} {s:ByteArray} {rbs:List Nat} {M:Tab} (h:TrAt w0 w tb eb ec vx vr s rbs M) (f t:Nat) (hf:f<rbs.length) (u:Int):TrAt w0 (w.setCell ⟨rbs[f],t,none⟩ (.int .i64 u)) tb eb ec vx vr s rbs (fun i j=>if i=f∧j=t then u else M i j):=by
 have hmem:rbs[f] ∈ rbs:=List.getElem_mem hf
 have hne:∀ b,b ∉ rbs→(w.setCell ⟨rbs[f],t,none⟩ (.int .i64 u)).heap[b]? = w.heap[b]? := fun b hb=>Below.heap_setCell _ _ _ _ (fun e=>hb (e ▸ hmem))
 refine⟨by simpa [World.setCell] using h.size,fun b hb=>?_,by rw[hne _ h.tn];exact h.blk,by simpa [World.setCell] using h.elt,fun i hi=>?_,fun i hi=>?_,h.nodup,h.rge,h.tn,h.en⟩
 ·rw[hne b (fun hb'=>by have:=h.rge b hb';omega)];exact h.old b hb
 ·rw[World.cell?_of_block (a:=⟨eb,i,none⟩) (hne eb h.en)];exact h.ends i hi
 ·by_cases e:i=f
  ·subst e
   rw[za6 (h.row i hi)]
   show some _=_
   have:=intsO_set (rowI (s.size+1) (M i)) t u
   rw[rowI_set] at this
   rw[show (fun j=>if i=i∧j=t then u else M i j)=(fun j=>if j=t then u else M i j) from by funext j;simp]
   rw[← this]
  ·have hne2:rbs[i]≠rbs[f]:=fun e2=>e ((List.getElem_inj h.nodup).1 e2)
   rw[Below.heap_setCell _ _ _ _ hne2,h.row i hi]
   congr 3
   funext j
   simp[e]
def Snd (xs:List RE) (names:List Bytes) (bodies:List Nat) (inp:Bytes) (M:Tab):Prop:=∀ i k,k≤inp.length→M i k = -2∨∃ f v,evR xs names bodies inp f i k=some v∧M i k=encR v
theorem Snd.set {xs:List RE} {names:List Bytes} {bodies:List Nat} {inp:Bytes} {M:Tab} (h:Snd xs names bodies inp M) {f i k:Nat} {v:Option Nat} (hv:evR xs names bodies inp f i k=some v):Snd xs names bodies inp (fun a b=>if a=i∧b=k then encR v else M a b):=by
 intro a b hb
 by_cases e:a=i∧b=k
 ·obtain⟨rfl,rfl⟩:=e
  exact .inr ⟨f,v,hv,by simp⟩
 ·simp only[if_neg e];exact h a b hb
end Go.Proofs.YtiganlkabilblaaGreatDoor
namespace Go.Proofs.YtiganlkabilblaaGreatDoor
open Go.RowKit Thk
attribute [local go_sem ↓] Go.wp_at_zero Go.wp_at_succ
theorem joined_any (a b:Nt) (w:World):Calls Tryz.prog 203 #[ntV a,ntV b] w fun e w'=>e = .returned (ntV (jn a b))∧w'=w:=by
 cases a with
 | nil=>
  simp only[ntV,jn]
  generalize ntV b=v
  go_enter Tryz.func203,Tryz.ntmps203
  go_wp2_with fail
  go_ret
  exact⟨rfl,rfl⟩
 | use i x y m=>
  cases b with
  | nil=>
   simp only[ntV,jn]
   go_enter Tryz.func203,Tryz.ntmps203
   go_wp2_with fail
   go_ret
   exact⟨rfl,rfl⟩
  | use i2 x2 y2 m2=>
   simp only[ntV,jn]
   go_enter Tryz.func203,Tryz.ntmps203
   go_wp2_with fail
   go_ret
   exact⟨rfl,rfl⟩
  | pair p q=>
   simp only[ntV,jn]
   go_enter Tryz.func203,Tryz.ntmps203
   go_wp2_with fail
   go_ret
   exact⟨rfl,rfl⟩
 | pair p q=>
  cases b with
  | nil=>
   simp only[ntV,jn]
   go_enter Tryz.func203,Tryz.ntmps203
   go_wp2_with fail
   go_ret
   exact⟨rfl,rfl⟩
  | use i2 x2 y2 m2=>
   simp only[ntV,jn]
   go_enter Tryz.func203,Tryz.ntmps203
   go_wp2_with fail
   go_ret
   exact⟨rfl,rfl⟩
  | pair p2 q2=>
   simp only[ntV,jn]
   go_enter Tryz.func203,Tryz.ntmps203
   go_wp2_with fail
   go_ret
   exact⟨rfl,rfl⟩
theorem zb3 (a:Nt):ntV a = .nilIface∨∃ t x,ntV a = .iface t x:=by
 cases a with
 | nil=>exact .inl rfl
 | use i x y m=>exact .inr ⟨_,_,rfl⟩
 | pair p q=>exact .inr ⟨_,_,rfl⟩
abbrev matO (vr:Value) (s:ByteArray) (tv:Value) (nt:Value):Obj:=.cells #[vr,.string s,tv,nt] 177 (0,0)
theorem zcx (w:World) (mb:Nat) (vr:Value) (s:ByteArray) (tv:Value) (a b:Nt) (h:w.heap[mb]? = some (matO vr s tv (ntV a))) :
  Calls Tryz.prog 192 #[.pointer (some ⟨mb,0,none⟩),ntV b] w fun e w'=>e = .returned (.tuple #[])∧w'=w.setCell ⟨mb,3,none⟩ (ntV (jn a b)):=by
 have q:w.cell? ⟨mb,3,none⟩=some (ntV a):=za0 h 3
 have fz:=za2 h 3
 have hl:=za7 h
 have hj:=joined_any a b w
 have HJ:=hideP hj
 have hf:=zb3 (jn a b)
 generalize ntV b=vb at *
 generalize ntV (jn a b)=vj at *
 generalize ntV a=va at *
 clear h hj
 rcases hf with rfl | ⟨t,x,rfl⟩
 all_goals
  go_enter Tryz.func192,Tryz.ntmps192
  go_wp2_with fail
  refine HJ.out.mono ?_
  rintro _ w1 ⟨rfl,hw⟩
  replace hw:=hw.symm
  subst hw
  go_wp2_with fail
  go_end0
  exact⟨rfl,rfl⟩
theorem takeBack_any (w:World) (mb:Nat) (vr:Value) (s:ByteArray) (tv a:Value) (b:Nt) (h:w.heap[mb]? = some (matO vr s tv a)) :
  Calls Tryz.prog 152 #[.pointer (some ⟨mb,0,none⟩),ntV b] w fun e w'=>e = .returned (.tuple #[])∧w'=w.setCell ⟨mb,3,none⟩ (ntV b):=by
 have q:w.cell? ⟨mb,3,none⟩=some a:=za0 h 3
 have fz:=za2 h 3
 have hl:=za7 h
 have hf:=zb3 b
 generalize ntV b=vb at *
 clear h
 rcases hf with rfl | ⟨t,x,rfl⟩
 all_goals
  go_enter Tryz.func152,Tryz.ntmps152
  go_wp2_with fail
  go_end0
  exact⟨rfl,rfl⟩
theorem zbW (w:World) (mb:Nat) (u:FrameMode) (vr:Value) (s:ByteArray) (tv a:Value) (b:Nt) (h:w.heap[mb]? = some (matO vr s tv a)) :
  CallsD Tryz.prog 152 #[.pointer (some ⟨mb,0,none⟩),ntV b] u w fun e u' w'=>u'=u∧(e = .returned (.tuple #[])∧w'=w.setCell ⟨mb,3,none⟩ (ntV b)):=by
 have q:w.cell? ⟨mb,3,none⟩=some a:=za0 h 3
 have fz:=za2 h 3
 have hl:=za7 h
 have hf:=zb3 b
 generalize ntV b=vb at *
 clear h
 rcases hf with rfl | ⟨t,x,rfl⟩
 all_goals
  go_enter_d Tryz.func152,Tryz.ntmps152
  go_wp2
  go_end0
  exact⟨rfl,rfl⟩
abbrev ptrV (b:Nat):Value:=.pointer (some ⟨b,0,none⟩)
abbrev cloV (x:Nat × Nat × Nat):Value:=.func (.func 177) #[] #[ptrV x.1,ptrV x.2.1,ptrV x.2.2]
def clV (bx:List (Nat × Nat × Nat)) (n:Nat):Value:=cloV (bx.getD n (0,0,0))
abbrev boxO (v:Value) (t:TypeId):Obj:=.cells #[v] t (0,0)
def RowC (w:World) (mb:Nat) (bx:List (Nat × Nat × Nat)) (ks:List Nat) (a:Option Addr):Prop:=∀ j (h:j<ks.length),∃ g,a=some ⟨g,0,none⟩∧g<w.heap.size∧g≠mb∧w.cell? ⟨g,j,none⟩=some (clV bx ks[j])
def Inn (w:World) (mb:Nat) (bx:List (Nat × Nat × Nat)) (n:Nat) (iv:Value):Nd→Prop
 | .choice ks=>∃ bs a c,iv = .func (.func 151) #[] #[ptrV bs]∧w.heap[bs]? = some (boxO (.slice a ks.length c) 175)∧RowC w mb bx ks a∧ks.length≤1000000
 | .seq ks=>∃ bm bs a c,iv = .func (.func 175) #[] #[ptrV bm,ptrV bs]∧w.heap[bm]? = some (boxO (ptrV mb) 113)∧w.heap[bs]? = some (boxO (.slice a ks.length c) 175)∧RowC w mb bx ks a∧ks.length≤1000000
 | .ahead k wd=>∃ bm be bw,iv = .func (.func 202) #[] #[ptrV bm,ptrV be,ptrV bw]∧w.heap[bm]? = some (boxO (ptrV mb) 113)∧w.heap[be]? = some (boxO (clV bx k) 226)∧w.heap[bw]? = some (boxO (.bool wd) 4)
 | .maybe k=>∃ be,iv = .func (.func 212) #[] #[ptrV be]∧w.heap[be]? = some (boxO (clV bx k) 226)
 | .plus k=>∃ be bp,iv = .func (.func 213) #[] #[ptrV be,ptrV bp]∧w.heap[be]? = some (boxO (clV bx k) 226)∧w.heap[bp]? = some (boxO (clV bx n) 226)
 | .name i=>∃ bm bi,iv = .func (.func 215) #[] #[ptrV bm,ptrV bi]∧w.heap[bm]? = some (boxO (ptrV mb) 113)∧w.heap[bi]? = some (boxO (.int .i64 i) 3)
 | .lit b=>∃ bm bt,iv = .func (.func 216) #[] #[ptrV bm,ptrV bt]∧w.heap[bm]? = some (boxO (ptrV mb) 113)∧w.heap[bt]? = some (boxO (.string ⟨b.toArray⟩) 9)∧b.length≤20
 | .cls l=>∃ bm bh bs u,iv = .func (.func 220) #[] #[ptrV bm,ptrV bh]∧w.heap[bm]? = some (boxO (ptrV mb) 113)∧w.heap[bh]? = some (boxO (.func (.func 217) #[] #[ptrV bs]) 287)∧w.heap[bs]? = some (boxO u 235)∧Spans w 0 u l∧l.length≤20
 | .any=>∃ bm bh,iv = .func (.func 220) #[] #[ptrV bm,ptrV bh]∧w.heap[bm]? = some (boxO (ptrV mb) 113)∧w.heap[bh]? = some (boxO (.func (.func 211) #[] #[]) 287)
structure Mde (wM:World) (mb:Nat) (N:List Nd) (bx:List (Nat × Nat × Nat)) (rules:List Nat) (vr:Value):Prop where
 clo:∀ n d,N[n]? = some d→∃ iv,wM.heap[(bx.getD n (0,0,0)).1]? = some (boxO (ptrV mb) 113)∧wM.heap[(bx.getD n (0,0,0)).2.1]? = some (boxO (.int .i64 n) 3)∧wM.heap[(bx.getD n (0,0,0)).2.2]? = some (boxO iv 226)∧Inn wM mb bx n iv d
 rul:∃ rb rc,vr = .slice (some ⟨rb,0,none⟩) rules.length rc∧rb<wM.heap.size∧rb≠mb∧∀ i (h:i<rules.length),wM.cell? ⟨rb,i,none⟩=some (clV bx rules[i])
 mat:∃ sv tv nv,wM.heap[mb]? = some (.cells #[vr,sv,tv,nv] 177 (0,0))
structure MS (wM:World) (mb tb:Nat) (N:List Nd) (rules:List Nat) (vr:Value) (s:ByteArray) (nt:Nt) (w:World):Prop where
 size:wM.heap.size≤w.heap.size
 old:∀ b,b<wM.heap.size→b≠mb→w.heap[b]? = wM.heap[b]?
 mlt:mb<wM.heap.size
 blk:w.heap[mb]? = some (matO vr s (.map (some tb)) (ntV nt))
 tge:wM.heap.size≤tb
 memo:∃ L,MemoIs w tb L∧∀ n k r,zaK L n k=some r→∃ f,evN N rules s.data.toList f n k=some r
theorem MemoIs.lt {w:World} {tb:Nat} {L:Memo} (h:MemoIs w tb L):tb<w.heap.size:=by
 obtain⟨es,cl,hb,_⟩:=h
 exact za7 hb
theorem MemoIs.same {w w':World} {tb:Nat} {L:Memo} (h:MemoIs w tb L) (hb:w'.heap[tb]? = w.heap[tb]?):MemoIs w' tb L:=by
 obtain⟨es,cl,h1,h2⟩:=h
 exact⟨es,cl,by rw[hb];exact h1,h2⟩
theorem MS.below {wM:World} {mb tb:Nat} {N:List Nd} {rules:List Nat} {vr:Value} {s:ByteArray} {nt:Nt} {w w':World} (h:MS wM mb tb N rules vr s nt w) (hb:Below w.heap.size w w'):MS wM mb tb N rules vr s nt w':=by
 have h1:=h.size
 have h2:=hb.size
 have h3:=h.mlt
 obtain⟨L,hL,hS⟩:=h.memo
 exact⟨by omega,fun b hb1 hb2=>(hb.block b (by omega)).trans (h.old b hb1 hb2),h.mlt,by rw[hb.block _ (by omega)];exact h.blk,h.tge,L,hL.same (hb.block _ hL.lt),hS⟩
theorem MS.noted {wM:World} {mb tb:Nat} {N:List Nd} {rules:List Nat} {vr:Value} {s:ByteArray} {nt:Nt} {w:World} (h:MS wM mb tb N rules vr s nt w) (nt':Nt):MS wM mb tb N rules vr s nt' (w.setCell ⟨mb,3,none⟩ (ntV nt')):=by
 obtain⟨L,hL,hS⟩:=h.memo
 have hne:tb≠mb:=by have:=h.mlt;have:=h.tge;omega
 refine⟨by simpa [World.setCell] using h.size,fun b hb1 hb2=>?_,h.mlt,?_,h.tge,L,hL.same (Below.heap_setCell _ _ _ _ hne),hS⟩
 ·rw[Below.heap_setCell _ _ _ _ hb2];exact h.old b hb1 hb2
 ·rw[za6 h.blk];rfl
theorem MS.low {wM:World} {mb tb:Nat} {N:List Nd} {rules:List Nat} {vr:Value} {s:ByteArray} {nt:Nt} {B:Nat} {w w':World} (h:MS wM mb tb N rules vr s nt w) (hB:wM.heap.size≤B) (ht:tb<B) (hb:Below B w w'):MS wM mb tb N rules vr s nt w':=by
 have h1:=h.size
 have h2:=hb.size
 have h3:=h.mlt
 obtain⟨L,hL,hS⟩:=h.memo
 exact⟨by omega,fun b hb1 hb2=>(hb.block b (by omega)).trans (h.old b hb1 hb2),h.mlt,by rw[hb.block _ (by omega)];exact h.blk,h.tge,L,hL.same (hb.block _ ht),hS⟩
theorem MS.tlt {wM:World} {mb tb:Nat} {N:List Nd} {rules:List Nat} {vr:Value} {s:ByteArray} {nt:Nt} {w:World} (h:MS wM mb tb N rules vr s nt w):tb<w.heap.size:=by
 obtain⟨L,hL,_⟩:=h.memo
 exact hL.lt
theorem KpM.low {rbs:List Nat} {B:Nat} {a w w':World} (h:KpM rbs B a w) (hb:Below B w w'):KpM rbs B a w':=⟨hb.os.trans h.os,hb.tape.trans h.tape,hb.output.trans h.output,Nat.le_trans h.size hb.size,fun k hk hr=>(hb.block k hk).trans (h.block k hk hr)⟩
theorem KpM.noted {mb tb:Nat} {B:Nat} {a w:World} (h:KpM [mb,tb] B a w) (u:Value):KpM [mb,tb] B a (w.setCell ⟨mb,3,none⟩ u):=h.set (by simp) u
end Go.Proofs.YtiganlkabilblaaGreatDoor
