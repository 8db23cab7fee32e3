import Derived.Test.YtiganlkabilblaaGreatDoorV12
import Derived.BigQuiet
import Derived.Deep.CutRange
import Derived.Test.YtiganlkabilblaaGreatDoorV17
import Derived.Laws.StructEq
import Derived.Test.YtiganlkabilblaaGreatDoorV13
import Derived.Defers
import Derived.RegionTactic
import Derived.BigRegion
set_option linter.all false
set_option maxHeartbeats 64000000
set_option maxRecDepth 100000
namespace Go.Proofs.YtiganlkabilblaaGreatDoor
open Go.RowKit
attribute [local go_sem ↓] Go.wp_at_zero Go.wp_at_succ
abbrev YB (vx vr:Value):Obj:=.cells #[vx,vr] 85 (0,0)
structure GM (w:World) (B gb:Nat) (vx vr:Value) (ps:List (Thk.RE × Value × Value)) (rs:List (Thk.z7 × Nat)):Prop where
 blk:w.heap[gb]? = some (YB vx vr)
 ex:w.ownsRow B 149 5 vx ps.length (ps.flatMap exC)
 ru:w.ownsRow B 90 2 vr rs.length (rs.flatMap ruC)
 items:∀ p ∈ ps,Items w B p.2.1 p.1.items
 parts:∀ p ∈ ps,Ints w B p.2.2 p.1.parts
theorem GM.lt {w:World} {B gb:Nat} {vx vr:Value} {ps:List (Thk.RE × Value × Value)} {rs:List (Thk.z7 × Nat)} (h:GM w B gb vx vr ps rs):gb<w.heap.size:=za h.blk
theorem GM.kept {w w':World} {B gb:Nat} {vx vr:Value} {ps:List (Thk.RE × Value × Value)} {rs:List (Thk.z7 × Nat)} (h:GM w B gb vx vr ps rs) (hb:∀ k,k<w.heap.size→w'.heap[k]? = w.heap[k]?):GM w' B gb vx vr ps rs:=
 ⟨by rw[hb gb h.lt];exact h.blk,Z6 h.ex (fun b e=>hb b (h.ex.lt b e).2),Z6 h.ru (fun b e=>hb b (h.ru.lt b e).2),fun p hp=>Z6 (h.items p hp) (fun b e=>hb b ((h.items p hp).lt b e).2),fun p hp=>Z6 (h.parts p hp) (fun b e=>hb b ((h.parts p hp).lt b e).2)⟩
theorem GM.below {w w':World} {B gb:Nat} {vx vr:Value} {ps:List (Thk.RE × Value × Value)} {rs:List (Thk.z7 × Nat)} (h:GM w B gb vx vr ps rs) (hb:Below w.heap.size w w'):GM w' B gb vx vr ps rs:=h.kept hb.block
theorem GM.exAt {w:World} {B gb:Nat} {vx vr:Value} {ps:List (Thk.RE × Value × Value)} {rs:List (Thk.z7 × Nat)} (h:GM w B gb vx vr ps rs) (hn : 0<ps.length) :
  ∃ xg xc,vx = .slice (some ⟨xg,0,none⟩) ps.length xc∧B≤xg∧xg<w.heap.size∧ps.length≤maxLen:=by
 have hex:=h.ex
 rcases hex.2 with ⟨_,h0⟩ | ⟨g,cap,cur,rfl,hB,hg,h1,h2,_⟩
 ·omega
 ·exact⟨g,cap,rfl,hB,za hg,by omega⟩
theorem GM.exCells {w:World} {B gb:Nat} {vr:Value} {ps:List (Thk.RE × Value × Value)} {rs:List (Thk.z7 × Nat)} {xg n xc:Nat} (h:GM w B gb (.slice (some ⟨xg,0,none⟩) n xc) vr ps rs) :
  (∀ o,w.frozen? ⟨xg,o,none⟩=false) ∧
   ∀ k (hk:k<ps.length),w.cell? ⟨xg,k * 5,none⟩=some (.int .i64 ps[k].1.kind)∧w.cell? ⟨xg,k * 5+1,none⟩=some ps[k].2.1∧w.cell? ⟨xg,k * 5+2,none⟩=some (.string ⟨ps[k].1.text.toArray⟩)∧w.cell? ⟨xg,k * 5+3,none⟩=some (.int .i64 ps[k].1.rule)∧w.cell? ⟨xg,k * 5+4,none⟩=some ps[k].2.2:=by
 have hex:=h.ex
 have hv:n=ps.length:=by
  rcases hex.2 with ⟨h0,_⟩ | ⟨g,cap,cur,h0,_⟩
  ·cases h0
  ·cases h0;rfl
 subst hv
 refine⟨fun o=>hex.frozenAt o,fun k hk=>?_⟩
 have hc:∀ j,j<5→w.cell? ⟨xg,k * 5+j,none⟩=(exC ps[k])[j]? := fun j hj=>by rw[hex.cellAt _ (by omega),zbx _ _ _ hk hj]
 exact⟨hc 0 (by decide),hc 1 (by decide),hc 2 (by decide),hc 3 (by decide),hc 4 (by decide)⟩
theorem zim (ps:List (Thk.z7 × Nat)) (i j:Nat) (hi:i<ps.length) (hj:j<2):(ps.flatMap ruC)[i * 2+j]? = (ruC ps[i])[j]? := by
 induction ps generalizing i with
 | nil=>simp at hi
 | cons p ps ih=>
  have hl:(ruC p).length=2:=rfl
  cases i with
  | zero=>
   simp only[List.flatMap_cons,Nat.zero_mul,Nat.zero_add,List.getElem_cons_zero]
   rw[List.getElem?_append_left (by omega)]
  | succ i=>
   simp only[List.flatMap_cons,List.getElem_cons_succ]
   rw[List.getElem?_append_right (by omega),hl,show (i+1) * 2+j - 2=i * 2+j from by omega]
   exact ih i (by simpa using hi)
theorem GM.ruAt {w:World} {B gb:Nat} {vx vr:Value} {ps:List (Thk.RE × Value × Value)} {rs:List (Thk.z7 × Nat)} (h:GM w B gb vx vr ps rs) (hn : 0<rs.length) :
  ∃ rg rc,vr = .slice (some ⟨rg,0,none⟩) rs.length rc∧B≤rg∧rg<w.heap.size:=by
 have hex:=h.ru
 rcases hex.2 with ⟨_,h0⟩ | ⟨g,cap,cur,rfl,hB,hg,h1,h2,_⟩
 ·omega
 ·exact⟨g,cap,rfl,hB,za hg⟩
theorem GM.ruCells {w:World} {B gb:Nat} {vx:Value} {ps:List (Thk.RE × Value × Value)} {rs:List (Thk.z7 × Nat)} {rg n rc:Nat} (h:GM w B gb vx (.slice (some ⟨rg,0,none⟩) n rc) ps rs) :
  ∀ k (hk:k<rs.length),w.cell? ⟨rg,k * 2,none⟩=some (.string ⟨rs[k].1.toArray⟩)∧w.cell? ⟨rg,k * 2+1,none⟩=some (.int .i64 rs[k].2):=by
 have hex:=h.ru
 have hv:n=rs.length:=by
  rcases hex.2 with ⟨h0,_⟩ | ⟨g,cap,cur,h0,_⟩
  ·cases h0
  ·cases h0;rfl
 subst hv
 intro k hk
 have hc:∀ j,j<2→w.cell? ⟨rg,k * 2+j,none⟩=(ruC rs[k])[j]? := fun j hj=>by rw[hex.cellAt _ (by omega),zim _ _ _ hk hj]
 exact⟨hc 0 (by decide),hc 1 (by decide)⟩
theorem GM.setRule {w:World} {B gb:Nat} {vr:Value} {ps:List (Thk.RE × Value × Value)} {rs:List (Thk.z7 × Nat)} {xg n xc:Nat} (h:GM w B gb (.slice (some ⟨xg,0,none⟩) n xc) vr ps rs) {i:Nat} (hi:i<ps.length) (r:Int) :
  GM (w.setCell ⟨xg,i * 5+3,none⟩ (.int .i64 r)) B gb (.slice (some ⟨xg,0,none⟩) n xc) vr (ps.set i ({ ps[i].1 with rule:=r },ps[i].2)) rs:=by
 have c:=Chg.set xg (i * 5+3) (.int .i64 r) w
 have hex:=h.ex
 have hv:n=ps.length:=by
  rcases hex.2 with ⟨h0,_⟩ | ⟨g,cap,cur,h0,_⟩
  ·cases h0
  ·cases h0;rfl
 subst hv
 obtain⟨cs,hxb⟩:=Qw hex (b:=xg) rfl
 have hng:gb≠xg:=by
  intro e1;subst e1
  rw[h.blk] at hxb;simp at hxb
 have hst:=(hex.stored (i * 5+3) (.int .i64 r)).1
 rw[zby ps i 3 hi (by decide) (.int .i64 r) ({ ps[i].1 with rule:=r },ps[i].2) rfl] at hst
 have hmem:∀ p ∈ ps.set i ({ ps[i].1 with rule:=r },ps[i].2),p ∈ ps∨p=({ ps[i].1 with rule:=r },ps[i].2):=fun p hp=>List.mem_or_eq_of_mem_set hp
 refine⟨by rw[c.same gb h.lt hng];exact h.blk,by rw[List.length_set];exact hst,zq c h.ru (zn h.ru hxb (by decide)),fun p hp=>?_,fun p hp=>?_⟩
 ·rcases hmem p hp with hp | rfl
  ·exact zq c (h.items p hp) (zn (h.items p hp) hxb (by decide))
  ·have:=h.items ps[i] (List.getElem_mem hi)
   exact zq c this (zn this hxb (by decide))
 ·rcases hmem p hp with hp | rfl
  ·exact zq c (h.parts p hp) (zn (h.parts p hp) hxb (by decide))
  ·have:=h.parts ps[i] (List.getElem_mem hi)
   exact zq c this (zn this hxb (by decide))
def rf (names:List Thk.z7) (b:Thk.z7) (k:Nat):Int:=if (names.drop k).contains b then ((k+(names.drop k).idxOf b:Nat):Int) else -1
theorem zhT (names:List Thk.z7) (b:Thk.z7) (k:Nat) (hk:k<names.length):rf names b k=if names[k]=b then (k:Int) else rf names b (k+1):=by
 unfold rf
 rw[List.drop_eq_getElem_cons hk]
 by_cases h:names[k]=b
 ·rw[if_pos h,if_pos (by simp[h])];simp[h]
 ·have hb:(b == names[k])=false:=by simpa using fun e=>h e.symm
  have hb':(names[k] == b)=false:=by simpa using h
  rw[if_neg h,List.contains_cons,hb,Bool.false_or,List.idxOf_cons,hb']
  simp only[cond_false]
  rw[show k+((names.drop (k+1)).idxOf b+1)=k+1+(names.drop (k+1)).idxOf b from by omega]
theorem zhS (names:List Thk.z7) (b:Thk.z7) (k:Nat) (hk:names.length≤k):rf names b k = -1:=by
 unfold rf;rw[List.drop_eq_nil_of_le hk];rfl
def rfE (names:List Thk.z7) (e:Thk.RE) (k:Nat):Int:=if e.kind=4 then rf names e.text k else -1
def ZY (names:List Thk.z7) (p:Thk.RE × Value × Value):Thk.RE × Value × Value:=({ p.1 with rule:=rfE names p.1 0 },p.2)
structure Ku (names:List Thk.z7) (ps qs:List (Thk.RE × Value × Value)) (i:Nat):Prop where
 len:qs.length=ps.length
 lo:∀ j,j<i→qs[j]? = (ps[j]?).map (ZY names)
 hi:∀ j,i≤j→qs[j]? = ps[j]?
theorem Ku.next {names:List Thk.z7} {ps qs:List (Thk.RE × Value × Value)} {i:Nat} (h:Ku names ps qs i) (hi:i<qs.length):Ku names ps (qs.set i ({ qs[i].1 with rule:=rfE names qs[i].1 0 },qs[i].2)) (i+1):=by
 have e:=h.hi i (Nat.le_refl _)
 refine⟨by simp[h.len],?_,?_⟩
 ·intro j hj
  rw[List.getElem?_set]
  by_cases hij:i=j
  ·subst hij
   rw[if_pos rfl,if_pos hi,← e,List.getElem?_eq_getElem hi];rfl
  ·rw[if_neg hij];exact h.lo j (by omega)
 ·intro j hj
  rw[List.getElem?_set,if_neg (by omega)];exact h.hi j (by omega)
theorem Ku.done {names:List Thk.z7} {ps qs:List (Thk.RE × Value × Value)} (h:Ku names ps qs ps.length):qs=ps.map (ZY names):=by
 apply List.ext_getElem?
 intro j
 rw[List.getElem?_map]
 by_cases hj:j<ps.length
 ·exact h.lo j hj
 ·rw[h.hi j (by omega),List.getElem?_eq_none (by omega)];rfl
end Go.Proofs.YtiganlkabilblaaGreatDoor
namespace Go.Proofs.YtiganlkabilblaaGreatDoor
open Go.RowKit Thk
attribute [local go_sem ↓] Go.wp_at_zero Go.wp_at_succ
def ntV:Nt→Value
 | .nil=>.nilIface
 | .use i a b m=>.iface 108 (.agg #[.int .i64 i,.int .i64 a,.int .i64 b,ntV m])
 | .pair a b=>.iface 342 (.agg #[ntV a,ntV b])
def zN:Out→Nat
 | none=>0
 | some x=>x.1
def Zm:Out→Nt
 | none=>.nil
 | some x=>x.2
abbrev Q9 (r:Out):Value:=.agg #[.int .i64 (zN r),.bool r.isSome]
abbrev Qb (r:Out):Value:=.agg #[.int .i64 (zN r),.bool r.isSome,ntV (Zm r)]
abbrev Q0 (n k:Nat):Value:=.agg #[.int .i64 n,.int .i64 k]
theorem qL (b:Bool) (n k:Int) (w:World):(Instr.checkKey b 10000 328 (.agg #[.int .i64 n,.int .i64 k])).run Tryz.prog w = .ok () w:=by kernel_rfl
theorem zeL (a b c d:Int) (w:World):(Op.equal 328 (.agg #[.int .i64 a,.int .i64 b]) (.agg #[.int .i64 c,.int .i64 d])).run Tryz.prog w = .ok (a == c && b == d) w:=by
 unfold Op.equal
 rw[show Op.maxDepth=9999+1 from rfl,run_equalIn_agg w 9999 328 _ _ (by kernel_rfl) (by kernel_rfl)]
 rw[show (Tryz.prog.fieldsOf 328).toList=[{ name := "expression", type:=3,offset:=0,embedded:=false,tag := "", pkgPath := "thicket/match", byteOffset:=0 },{ name := "place", type:=3,offset:=1,embedded:=false,tag := "", pkgPath := "thicket/match", byteOffset:=8 }] by kernel_rfl]
 have p1:∀ (x y:Int) (w:World) , (part 3 #[.int .i64 x,.int .i64 y] 0).run Tryz.prog w = .ok (.int .i64 x) w:=fun _ _ w=>by kernel_rfl
 have p2:∀ (x y:Int) (w:World) , (part 3 #[.int .i64 x,.int .i64 y] 1).run Tryz.prog w = .ok (.int .i64 y) w:=fun _ _ w=>by kernel_rfl
 have e1:∀ (x y:Int) (w:World),(Op.equalIn 9999 3 (.int .i64 x) (.int .i64 y)).run Tryz.prog w = .ok (x == y) w:=fun x y w=>run_equalIn_int w 9998 3 .i64 .i64 x y Tryz.underlying3
 simp only[Op.eqFields,Sem.run_bind,Sem.run_ite,p1,p2,e1,Result.andThen_ok,Sem.run_pure]
 cases (a == c)<;>cases (b == d)<;>simp
abbrev J3:=List ((Nat × Nat) × Out)
def Yb (L:J3):List (Value × Value):=L.map fun p=>(Q0 p.1.1 p.1.2,Qb p.2)
def ZK (L:J3) (n k:Nat):Option Out:=(L.find? (fun p=>p.1.1 == n && p.1.2 == k)).map (·.2)
def Qz (w:World) (tb:Nat) (L:J3):Prop:=∃ es clock,w.heap[tb]? = some (.map es clock)∧es.toList.map (fun x=>(x.key,x.val))=Yb L
theorem ze2 (a b:Nat):((a:Int) == (b:Int))=(a == b):=by
 rw[Bool.eq_iff_iff,beq_iff_eq,beq_iff_eq];omega
theorem zb0 (n k:Nat) (w:World):∀ (es:List MapEntry) (L:J3) (i:Nat),es.map (fun x=>(x.key,x.val))=Yb L →
  (Instr.findAsking 328 (Q0 n k) es i).run Tryz.prog w=(match ZK L n k with
   | none=>.ok none w
   | some r=>.ok (some (i+L.findIdx (fun p=>p.1.1 == n && p.1.2 == k),Qb r)) w)
 | [],L,i,h=>by
  have:L=[]:=by
   cases L with
   | nil=>rfl
   | cons a L=>simp[Yb] at h
  subst this
  simp[Instr.findAsking,ZK]
 | e::es,[],i,h=>by simp[Yb] at h
 | e::es,p::L,i,h=>by
  simp only[Yb,List.map_cons,List.cons.injEq,Prod.mk.injEq] at h
  obtain⟨⟨h1,h2⟩,h3⟩:=h
  have ih:=zb0 n k w es L (i+1) h3
  have heq:=zeL (n:Int) (k:Int) (p.1.1:Int) (p.1.2:Int) w
  simp only[Instr.findAsking,Sem.run_bind,h1]
  rw[heq]
  simp only[Result.andThen_ok,ze2]
  have hsw:(n == p.1.1 && k == p.1.2)=(p.1.1 == n && p.1.2 == k):=by
   rw[Bool.eq_iff_iff]
   simp only[Bool.and_eq_true,beq_iff_eq]
   constructor<;>rintro⟨a,b⟩<;>exact⟨a.symm,b.symm⟩
  rw[hsw]
  cases hb:(p.1.1 == n && p.1.2 == k) with
  | true=>
   simp only[if_true,Sem.run_pure,ZK,List.find?_cons,hb,List.findIdx_cons]
   simp[h2]
  | false=>
   simp only[Bool.false_eq_true,if_false,ZK,List.find?_cons,hb,List.findIdx_cons]
   rw[ih]
   simp only[ZK,cond_false]
   cases hm:Option.map (fun x=>x.2) (L.find? (fun p=>p.1.1 == n && p.1.2 == k)) with
   | none=>rfl
   | some r=>
    simp only[]
    rw[show i+1+L.findIdx (fun p=>p.1.1 == n && p.1.2 == k)=i+(L.findIdx (fun p=>p.1.1 == n && p.1.2 == k)+1) from by omega]
theorem qW (n k:Nat) (w:World) (es:List MapEntry) (L:J3) (h:es.map (fun x=>(x.key,x.val))=Yb L) :
  (Instr.findKey 328 (Q0 n k) es).run Tryz.prog w=(match ZK L n k with
   | none=>.ok none w
   | some r=>.ok (some (L.findIdx (fun p=>p.1.1 == n && p.1.2 == k),Qb r)) w):=by
 unfold Instr.findKey
 simp only[Sem.run_bind,run_underlying Tryz.underlying328,Result.andThen_ok]
 cases es with
 | nil=>
  have:L=[]:=by
   cases L with
   | nil=>rfl
   | cons a L=>simp[Yb] at h
  subst this
  simp[Instr.findNow,ZK]
 | cons e es=>
  simp only[Instr.findNow,Instr.sameNow]
  have:=zb0 n k w (e::es) L 0 h
  rw[this]
  simp
theorem Qz.look {w:World} {tb:Nat} {L:J3} (h:Qz w tb L) (n k:Nat) :
  (Instr.lookup 174 (.map (some tb)) (Q0 n k) true).run Tryz.prog w = .ok (.tuple #[Qb ((ZK L n k).getD none),.bool (ZK L n k).isSome]) w:=by
 obtain⟨es,clock,hb,hl⟩:=h
 have hz:∀ w,(zeroValue 231).run Tryz.prog w = .ok (.agg #[.int .i64 0,.bool false,.nilIface]) w:=fun w=>Tryz.zeroValue231 w
 have hck:=qL es.isEmpty (n:Int) (k:Int) w
 have hfd:=qW n k w es.toList L hl
 cases hm:ZK L n k with
 | none=>
  rw[hm] at hfd
  simp only[] at hfd
  simp[Instr.lookup,run_underlying Tryz.underlying174,MapKept.run_getObj_map hb,hck,hfd,hz,Result.andThen,zN,Zm,ntV]
 | some r=>
  rw[hm] at hfd
  simp only[] at hfd
  simp[Instr.lookup,run_underlying Tryz.underlying174,MapKept.run_getObj_map hb,hck,hfd,Result.andThen]
abbrev JU (w:World) (b:Nat) (o:Obj):World:={ w with heap:=w.heap.setIfInBounds b o }
theorem Qz.put {w:World} {tb:Nat} {L:J3} (h:Qz w tb L) (n k:Nat) (r:Out) (hn:ZK L n k=none) :
  ∃ o,(Instr.mapUpdate 174 (.map (some tb)) (Q0 n k) (Qb r)).run Tryz.prog w = .ok () (JU w tb o)∧Qz (JU w tb o) tb (L++[((n,k),r)]):=by
 obtain⟨es,clock,hb,hl⟩:=h
 have hck:=qL false (n:Int) (k:Int) w
 have hfd:=qW n k w es.toList L hl
 rw[hn] at hfd
 simp only[] at hfd
 refine⟨.map (es.push { key:=Q0 n k,val:=Qb r,born:=clock }) (clock+1),?_,(es.push { key:=Q0 n k,val:=Qb r,born:=clock }),clock+1,?_,?_⟩
 ·simp[Instr.mapUpdate,run_underlying Tryz.underlying174,MapKept.run_getObj_map hb,hck,hfd,Result.andThen,MapKept.run_setObj_map _ hb]
 ·have hlt:=zd hb
  show (w.heap.setIfInBounds tb _)[tb]? = _
  rw[Array.getElem?_setIfInBounds_self_of_lt hlt]
 ·rw[Array.toList_push,List.map_append,hl]
  simp[Yb]
end Go.Proofs.YtiganlkabilblaaGreatDoor
namespace Go.Proofs.YtiganlkabilblaaGreatDoor
open Thk
abbrev REv:=Nat→Nat→Option (Option Nat)
def Jb (F:REv):List Nat→Nat→Option (Option Nat)
 | [],k=>some (some k)
 | j::js,k=>match F j k with
  | none=>none
  | some none=>some none
  | some (some e)=>Jb F js e
def chR (F:REv):List Nat→Nat→Option (Option Nat)
 | [],_=>some none
 | j::js,k=>match F j k with
  | none=>none
  | some none=>chR F js k
  | some (some e)=>some (some e)
def Zf (F:REv) (j:Nat):Nat→Option Nat→Nat→Option (Option Nat)
 | 0,_,_=>none
 | _+1,none,k=>some (some k)
 | c+1,some e,_=>match F j e with
  | none=>none
  | some n=>Zf F j c n e
def Yh (inp:z7) (e:RE) (k:Nat):Option Nat:=
 if e.kind=3 then (if k<inp.length then some (k+1) else none)
 else if e.kind=2 then (match inp[k]? with | none=>none | some c=>if Q7 e.items c then some (k+1) else none)
 else if (e.items.map (·.1)).isPrefixOf (inp.drop k) then some (k+e.items.length) else none
def Jq (F:REv) (cnt:Nat) (e:RE) (k:Nat):Option (Option Nat):=
 match F (e.parts.headD 0) k with
 | none=>none
 | some n=>
  if e.kind=7 then some (some (n.getD k))
  else if e.kind=10 then some (if n.isSome then some k else none)
  else if e.kind=11 then some (if n.isSome then none else some k)
  else if e.kind=9∧n=none then some none
  else Zf F (e.parts.headD 0) cnt n k
def QH (names:List z7) (bodies:List Nat) (inp:z7) (F:REv) (cnt:Nat) (e:RE) (k:Nat):Option (Option Nat):=
 if e.kind≤3 then some (Yh inp e k)
 else if e.kind=4 then F (bodies.getD (idx0 names e.text) 0) k
 else if e.kind=5 then Jb F e.parts k
 else if e.kind=6 then chR F e.parts k
 else Jq F cnt e k
def okE (names:List z7) (e:RE):Bool:=decide (1≤e.kind) && decide (e.kind≤11) && decide (e.items.length≤20) && (e.kind != 4 || names.contains e.text)
def evR (xs:List RE) (names:List z7) (bodies:List Nat) (inp:z7):Nat→REv
 | 0,_,_=>none
 | f+1,i,k=>match xs[i]? with
  | none=>none
  | some e=>if okE names e then QH names bodies inp (evR xs names bodies inp f) f e k else none
def Le (F G:REv):Prop:=∀ i k v,F i k=some v→G i k=some v
theorem zcB {F G:REv} (h:Le F G):∀ js k v,Jb F js k=some v→Jb G js k=some v
 | [],k,v,e=>e
 | j::js,k,v,e=>by
  simp only[Jb] at e ⊢
  cases hF:F j k with
  | none=>rw[hF] at e;cases e
  | some o=>
   rw[h j k o hF]
   rw[hF] at e
   cases o with
   | none=>exact e
   | some x=>exact zcB h js x v e
theorem zbb {F G:REv} (h:Le F G):∀ js k v,chR F js k=some v→chR G js k=some v
 | [],k,v,e=>e
 | j::js,k,v,e=>by
  simp only[chR] at e ⊢
  cases hF:F j k with
  | none=>rw[hF] at e;cases e
  | some o=>
   rw[h j k o hF]
   rw[hF] at e
   cases o with
   | none=>exact zbb h js k v e
   | some x=>exact e
theorem zcm {F G:REv} (h:Le F G) (j:Nat):∀ c d o k v,c≤d→Zf F j c o k=some v→Zf G j d o k=some v
 | 0,_,_,_,_,_,e=>by simp[Zf] at e
 | c+1,0,_,_,_,hc,_=>by omega
 | c+1,d+1,none,k,v,_,e=>by simpa [Zf] using e
 | c+1,d+1,some x,k,v,hc,e=>by
  simp only[Zf] at e ⊢
  cases hF:F j x with
  | none=>rw[hF] at e;cases e
  | some o=>
   rw[h j x o hF]
   rw[hF] at e
   exact zcm h j c d o x v (by omega) e
theorem zjE {F G:REv} (h:Le F G) {c d:Nat} (hc:c≤d) {e:RE} {k:Nat} {v:Option Nat} (hv:Jq F c e k=some v):Jq G d e k=some v:=by
 unfold Jq at hv ⊢
 cases hF:F (e.parts.headD 0) k with
 | none=>rw[hF] at hv;cases hv
 | some o=>
  rw[h _ _ _ hF]
  rw[hF] at hv
  simp only[] at hv ⊢
  by_cases h7:e.kind=7
  ·rw[if_pos h7] at hv ⊢;exact hv
  rw[if_neg h7] at hv ⊢
  by_cases h10:e.kind=10
  ·rw[if_pos h10] at hv ⊢;exact hv
  rw[if_neg h10] at hv ⊢
  by_cases h11:e.kind=11
  ·rw[if_pos h11] at hv ⊢;exact hv
  rw[if_neg h11] at hv ⊢
  by_cases h9:e.kind=9∧o=none
  ·rw[if_pos h9] at hv ⊢;exact hv
  rw[if_neg h9] at hv ⊢
  exact zcm h _ c d _ _ _ hc hv
theorem ze9 {names:List z7} {bodies:List Nat} {inp:z7} {F G:REv} (h:Le F G) {c d:Nat} (hc:c≤d) {e:RE} {k:Nat} {v:Option Nat} (hv:QH names bodies inp F c e k=some v):QH names bodies inp G d e k=some v:=by
 unfold QH at hv ⊢
 by_cases h3:e.kind≤3
 ·rw[if_pos h3] at hv ⊢;exact hv
 rw[if_neg h3] at hv ⊢
 by_cases h4:e.kind=4
 ·rw[if_pos h4] at hv ⊢;exact h _ _ _ hv
 rw[if_neg h4] at hv ⊢
 by_cases h5:e.kind=5
 ·rw[if_pos h5] at hv ⊢;exact zcB h _ _ _ hv
 rw[if_neg h5] at hv ⊢
 by_cases h6:e.kind=6
 ·rw[if_pos h6] at hv ⊢;exact zbb h _ _ _ hv
 rw[if_neg h6] at hv ⊢
 exact zjE h hc hv
theorem qO (xs:List RE) (names:List z7) (bodies:List Nat) (inp:z7):∀ f,Le (evR xs names bodies inp f) (evR xs names bodies inp (f+1))
 | 0=>by intro i k v h;simp[evR] at h
 | f+1=>by
  intro i k v h
  simp only[evR] at h ⊢
  cases hx:xs[i]? with
  | none=>rw[hx] at h;cases h
  | some e=>
   rw[hx] at h
   simp only[] at h ⊢
   split at h
   ·rename_i ho;rw[if_pos ho];exact ze9 (qO xs names bodies inp f) (Nat.le_succ f) h
   ·cases h
theorem Jz {xs:List RE} {names:List z7} {bodies:List Nat} {inp:z7} {f d:Nat} (hf:f≤d):Le (evR xs names bodies inp f) (evR xs names bodies inp d):=by
  induction d with
  | zero => have : f = 0 := by omega
            subst this;intro i k v h;exact h
  | succ d ih=>
    by_cases h:f=d+1
    · subst h;intro i k v h;exact h
    · intro i k v hv;exact qO xs names bodies inp d i k v (ih (by omega) i k v hv)
theorem zbw {xs:List RE} {names:List z7} {bodies:List Nat} {inp:z7} {f d i k:Nat} {v u:Option Nat} (h1:evR xs names bodies inp f i k=some v) (h2:evR xs names bodies inp d i k=some u):v=u:=by
 have a:=Jz (Nat.le_max_left f d) i k v h1
 have b:=Jz (Nat.le_max_right f d) i k u h2
 rw[a] at b
 exact Option.some.inj b
def zaG (xs:List RE) (i:Nat) (p:zC) (b:UInt8):Prop:=(if b=0 then zw xs i p else ∃ j,xs[i]? = some (zy (zE [b]) j)∧zw xs j p)∧(b=0∨b=63∨b=42∨b=43)
def fin (r:Out):Option Nat:=r.map (·.1)
def Sim (xs:List RE) (names:List z7) (bodies:List Nat) (inp:z7):Ex→Nat→Out→Prop
  | .P p,k,r=>∀ i,zw xs i p→∃ f,evR xs names bodies inp f i k=some (fin r)
  | .Q p, k, r => ∀ i, zw xs i p → ∃ f n, (∀ d, f ≤ d → evR xs names bodies inp d i k = some n) ∧ (match r with
      | none=>n=none
      | some (e,_)=>n≠none∧∀ d c x,f≤d→f≤c→Zf (evR xs names bodies inp d) i c n x=some (some e))
  | .I p b,k,r=>∀ i,zaG xs i p b→∃ f,evR xs names bodies inp f i k=some (fin r)
  | .T t,k,r=>∀ i,Zw xs i t→∃ f,evR xs names bodies inp f i k=some (fin r)
  | .S s _,k,r=>∀ is,Z7 xs is s→∃ f,∀ d,f≤d→Jb (evR xs names bodies inp d) is k=some (fin r)
  | .C c,k,r=>∀ is,zZ xs is c→∃ f,∀ d,f≤d→chR (evR xs names bodies inp d) is k=some (fin r)
theorem Y7 {xs:List RE} {names:List z7} {bodies:List Nat} {inp:z7} {i:Nat} {e:RE} (h:xs[i]? = some e) (ho:okE names e=true) (f k:Nat):evR xs names bodies inp (f+1) i k=QH names bodies inp (evR xs names bodies inp f) f e k:=by
 simp only[evR,h,ho,if_true]
theorem zeT (i k:Nat) (r:Out):fin (QZ i k r)=fin r:=by
 cases r with
 | none=>rfl
 | some x=>
  obtain⟨e,m⟩:=x
  unfold QZ fin
  simp only[]
  split<;>rfl
theorem zbz (inp:z7) (k:Nat) (f:UInt8→Bool):fin (Qj inp k f)=match inp[k]? with
  | none=>none
  | some c=>if f c then some (k+1) else none:=by
 unfold Qj fin
 cases inp[k]? with
 | none=>rfl
 | some c=>simp only[];split<;>rfl
theorem zcI:zE [63]=7:=by decide
theorem zcG:zE [42]=8:=by decide
theorem zcH:zE [43]=9:=by decide
theorem zcF:zE [38]=10:=by decide
theorem zcE:zE [33]=11:=by decide
theorem UQ (names:List z7) {s j:Nat} (hs : 7≤s∧s≤11):okE names (zy s j)=true:=by
 have h4:(s != 4)=true:=by rw[bne_iff_ne];omega
 have h1:decide (1≤s)=true:=by rw[decide_eq_true_eq];omega
 have h2:decide (s≤11)=true:=by rw[decide_eq_true_eq];omega
 unfold okE zy
 simp only[h1,h2,h4]
 rfl
theorem U0 {xs:List RE} {names:List z7} {bodies:List Nat} {inp:z7} {i j s:Nat} (h:xs[i]? = some (zy s j)) (hs : 7≤s∧s≤11) (f k:Nat):evR xs names bodies inp (f+1) i k=Jq (evR xs names bodies inp f) f (zy s j) k:=by
 rw[Y7 h (UQ _ hs)]
 unfold QH
 rw[if_neg (by simp only[zy];omega),if_neg (by simp only[zy];omega),if_neg (by simp only[zy];omega),if_neg (by simp only[zy];omega)]
theorem zjC {F:REv} {c j k:Nat} {n:Option Nat} (h:F j k=some n):Jq F c (zy 8 j) k=Zf F j c n k:=by
 unfold Jq
 simp[zy,h]
theorem zjD {F:REv} {c j k:Nat} {n:Option Nat} (h:F j k=some n):Jq F c (zy 9 j) k=if n=none then some none else Zf F j c n k:=by
 unfold Jq
 simp[zy,h]
theorem Ev.sim {g:List ze} {inp:z7} {xs:List RE} {rs:List (z7 × Nat)} (hR:zV xs rs g) {x:Ex} {k:Nat} {r:Out} (h:Ev g inp x k r):Sim xs (rs.map (·.1)) (rs.map (·.2)) inp x k r:=by
 have hnames:rs.map (·.1)=zg g:=zV.names rs g hR
 induction h with
 | cnil=>
  intro is hd
  simp only[zZ] at hd
  subst hd
  exact⟨0,fun d _=>rfl⟩
 | @chit s c k x _ ih=>
  intro is hd
  simp only[zZ] at hd
  obtain⟨q,qs,ks,rfl,h1,h2,h3⟩:=hd
  obtain⟨f,hf⟩:=ih ks h2
  refine⟨f+1,fun d hd=>?_⟩
  obtain⟨d',rfl⟩:∃ d',d=d'+1:=⟨d - 1,by omega⟩
  simp only[chR]
  rw[Y7 h1 (by simp[okE])]
  unfold QH
  rw[if_neg (by simp),if_neg (by simp),if_pos (by simp)]
  simp only[]
  rw[hf d' (by omega)]
  rfl
 | @cmiss s c k r _ _ ih1 ih2=>
  intro is hd
  simp only[zZ] at hd
  obtain⟨q,qs,ks,rfl,h1,h2,h3⟩:=hd
  obtain⟨f,hf⟩:=ih1 ks h2
  obtain⟨f2,hf2⟩:=ih2 qs h3
  refine⟨max f f2+1,fun d hd=>?_⟩
  obtain⟨d',rfl⟩:∃ d',d=d'+1:=⟨d - 1,by omega⟩
  simp only[chR]
  rw[Y7 h1 (by simp[okE])]
  unfold QH
  rw[if_neg (by simp),if_neg (by simp),if_pos (by simp)]
  simp only[]
  rw[hf d' (by omega)]
  simp only[fin,Option.map_none]
  exact hf2 (d'+1) (by omega)
 | snil=>
  intro is hd
  simp only[Z7] at hd
  subst hd
  exact⟨0,fun d _=>rfl⟩
 | @sfail t s acc k _ ih=>
  intro is hd
  simp only[Z7] at hd
  obtain⟨q,qs,rfl,h1,h2⟩:=hd
  obtain⟨f,hf⟩:=ih q h1
  refine⟨f,fun d hd=>?_⟩
  simp only[Jb]
  rw[Jz hd _ _ _ hf]
  rfl
 | @sstep t s acc k e m r _ _ ih1 ih2=>
  intro is hd
  simp only[Z7] at hd
  obtain⟨q,qs,rfl,h1,h2⟩:=hd
  obtain⟨f,hf⟩:=ih1 q h1
  obtain⟨f2,hf2⟩:=ih2 qs h2
  refine⟨max f f2,fun d hd=>?_⟩
  simp only[Jb]
  rw[Jz (show f≤d by omega) _ _ _ hf]
  exact hf2 d (by omega)
 | @tplain p b k r _ ih=>
  intro i hd
  simp only[Zw] at hd
  obtain⟨i',j,h1,h2,h3,h4,h5⟩:=hd
  rw[if_pos trivial] at h1
  subst h1
  refine ih i ⟨?_,h4⟩
  by_cases hb:b=0
  ·rw[if_pos hb] at h2 ⊢;subst h2;exact h3
  ·rw[if_neg hb] at h2 ⊢;exact⟨j,h2,h3⟩
 | @tand p b k r _ ih=>
  intro i hd
  simp only[Zw] at hd
  obtain⟨i',j,h1,h2,h3,h4,h5⟩:=hd
  rw[if_neg (by decide)] at h1
  obtain⟨f,hf⟩:=ih i' ⟨by
   by_cases hb:b=0
   ·rw[if_pos hb] at h2 ⊢;subst h2;exact h3
   ·rw[if_neg hb] at h2 ⊢;exact⟨j,h2,h3⟩,h4⟩
  rw[zcF] at h1
  refine⟨f+1,?_⟩
  rw[U0 h1 ⟨by omega,by omega⟩]
  unfold Jq
  simp only[zy,List.headD_cons]
  rw[hf]
  simp only[]
  rw[if_neg (by decide)]
  simp only[if_true]
  unfold Ja fin
  cases r<;>simp
 | @tnot p b k r _ ih=>
  intro i hd
  simp only[Zw] at hd
  obtain⟨i',j,h1,h2,h3,h4,h5⟩:=hd
  rw[if_neg (by decide)] at h1
  obtain⟨f,hf⟩:=ih i' ⟨by
   by_cases hb:b=0
   ·rw[if_pos hb] at h2 ⊢;subst h2;exact h3
   ·rw[if_neg hb] at h2 ⊢;exact⟨j,h2,h3⟩,h4⟩
  rw[zcE] at h1
  refine⟨f+1,?_⟩
  rw[U0 h1 ⟨by omega,by omega⟩]
  unfold Jq
  simp only[zy,List.headD_cons]
  rw[hf]
  simp only[]
  rw[if_neg (by decide),if_neg (by decide)]
  simp only[if_true]
  unfold Ja fin
  cases r<;>simp
 | iplain _ ih=>
  intro i hd
  have:=hd.1
  rw[if_pos rfl] at this
  exact ih i this
 | @imaybe p k r _ ih=>
  intro i hd
  have:=hd.1
  rw[if_neg (by decide)] at this
  obtain⟨j,h1,h2⟩:=this
  obtain⟨f,hf⟩:=ih j h2
  rw[zcI] at h1
  refine⟨f+1,?_⟩
  rw[U0 h1 ⟨by omega,by omega⟩]
  unfold Jq
  simp only[zy,List.headD_cons]
  rw[hf]
  simp only[if_true]
  unfold Kg fin
  cases r<;>simp
 | @istar p k r _ ih=>
  intro i hd
  have:=hd.1
  rw[if_neg (by decide)] at this
  obtain⟨j,h1,h2⟩:=this
  obtain⟨f,n,hf,hr⟩:=ih j h2
  rw[zcG] at h1
  refine⟨f+1+1,?_⟩
  rw[U0 h1 ⟨by omega,by omega⟩,zjC (hf (f+1) (by omega))]
  unfold Kg fin
  cases r with
  | none=>
   simp only[] at hr
   subst hr
   simp[Zf]
  | some x=>
   obtain⟨e,m⟩:=x
   simp only[] at hr
   rw[hr.2 (f+1) (f+1) k (by omega) (by omega)]
   simp
 | @iplus p k r _ ih=>
  intro i hd
  have:=hd.1
  rw[if_neg (by decide)] at this
  obtain⟨j,h1,h2⟩:=this
  obtain⟨f,n,hf,hr⟩:=ih j h2
  rw[zcH] at h1
  refine⟨f+1+1,?_⟩
  rw[U0 h1 ⟨by omega,by omega⟩,zjD (hf (f+1) (by omega))]
  unfold fin
  cases r with
  | none=>
   simp only[] at hr
   subst hr
   simp
  | some x=>
   obtain⟨e,m⟩:=x
   simp only[] at hr
   rw[if_neg hr.1,hr.2 (f+1) (f+1) k (by omega) (by omega)]
   simp
 | qno _ ih=>
  intro i hd
  obtain⟨f,hf⟩:=ih i hd
  exact⟨f,none,fun d h=>Jz h _ _ _ hf,rfl⟩
 | @qlast p k e m _ _ ih1 ih2=>
  intro i hd
  obtain⟨f,hf⟩:=ih1 i hd
  obtain⟨f2,n2,hf2,hn2⟩:=ih2 i hd
  simp only[] at hn2
  subst hn2
  refine⟨max f f2+2,some e,fun d h=>Jz (by omega) _ _ _ hf,by simp,?_⟩
  intro d c x h1 h2
  obtain⟨c',rfl⟩:∃ c',c=c'+1+1:=⟨c - 2,by omega⟩
  simp only[Zf]
  rw[hf2 d (by omega)]
  simp[Zf]
 | @qmore p k e m e2 m2 _ _ ih1 ih2=>
  intro i hd
  obtain⟨f,hf⟩:=ih1 i hd
  obtain⟨f2,n2,hf2,hn2⟩:=ih2 i hd
  simp only[] at hn2
  refine⟨max f f2+1,some e,fun d h=>Jz (by omega) _ _ _ hf,by simp,?_⟩
  intro d c x h1 h2
  obtain⟨c',rfl⟩:∃ c',c=c'+1:=⟨c - 1,by omega⟩
  simp only[Zf]
  rw[hf2 d (by omega)]
  exact hn2.2 d c' e (by omega) (by omega)
 | @pname b k r hlt hc _ ih=>
  intro i hd
  simp only[zw] at hd
  have hb:=((zV.get rs g hR).2 _ hlt).2
  simp only[zw] at hb
  obtain⟨qs,hq1,hq2⟩:=hb
  obtain⟨f,hf⟩:=ih qs hq2
  refine⟨f+1+1,?_⟩
  rw[Y7 hd (by rw[hnames];simp[okE] at hc ⊢;exact hc)]
  unfold QH
  rw[if_neg (by simp),if_pos (by simp)]
  simp only[]
  rw[hnames,Y7 hq1 (by simp[okE])]
  unfold QH
  rw[if_neg (by simp),if_neg (by simp),if_neg (by simp),if_pos (by simp)]
  simp only[]
  rw[zeT,← hnames]
  exact hf f (Nat.le_refl _)
 | @plit b k hb=>
  intro i hd
  simp only[zw] at hd
  refine⟨1,?_⟩
  rw[Y7 hd (by simp[okE];exact hb)]
  unfold QH
  rw[if_pos (by simp)]
  unfold Yh Ya fin
  rw[if_neg (by simp),if_neg (by simp)]
  simp only[List.map_map,List.length_map]
  have:List.map ((fun x:zR=>x.1) ∘ fun c=>(c,c)) b=b:=by
   conv=>rhs;rw[← List.map_id b]
   apply List.map_congr_left
   intro a _;rfl
  rw[this]
  split<;>rfl
 | @pcls l k hb=>
  intro i hd
  simp only[zw] at hd
  refine⟨1,?_⟩
  rw[Y7 hd (by simp[okE];exact hb),zbz]
  unfold QH
  rw[if_pos (by simp)]
  unfold Yh
  rw[if_neg (by simp),if_pos (by simp)]
 | @pany k=>
  intro i hd
  simp only[zw] at hd
  refine⟨1,?_⟩
  rw[Y7 hd (by simp[okE]),zbz]
  unfold QH
  rw[if_pos (by simp)]
  unfold Yh
  rw[if_pos (by simp)]
  by_cases hk:k<inp.length
  ·rw[if_pos hk,List.getElem?_eq_getElem hk];rfl
  ·rw[if_neg hk,List.getElem?_eq_none (by omega)]
 | @pgroup c k r _ ih=>
  intro i hd
  simp only[zw] at hd
  obtain⟨qs,h1,h2⟩:=hd
  obtain⟨f,hf⟩:=ih qs h2
  refine⟨f+1,?_⟩
  rw[Y7 h1 (by simp[okE])]
  unfold QH
  rw[if_neg (by simp),if_neg (by simp),if_neg (by simp),if_pos (by simp)]
  exact hf f (Nat.le_refl _)
end Go.Proofs.YtiganlkabilblaaGreatDoor
namespace Go.Proofs.YtiganlkabilblaaGreatDoor
open Go.RowKit
attribute [local go_sem ↓] Go.wp_at_zero Go.wp_at_succ
theorem Ints.gen {w:World} {B:Nat} {v:Value} {ns:List Nat} (h:Ints w B v ns):∃ pa pc,v = .slice pa ns.length pc∧ns.length≤9223372036854775807∧∀ j (hj:j<ns.length),∃ pg,pa=some ⟨pg,0,none⟩∧pg<w.heap.size∧w.cell? ⟨pg,j,none⟩=some (.int .i64 ns[j]):=by
 have h':=h
 rcases h'.2 with ⟨rfl,h0⟩ | ⟨g,cap,cur,rfl,_,hg,h1,h2,_⟩
 ·exact⟨none,0,by rw[h0],by omega,fun j hj=>by omega⟩
 ·refine⟨_,cap,rfl,by unfold maxLen at h2;omega,fun j hj=>⟨g,rfl,za hg,?_⟩⟩
  have:=h.cellAt (g:=g) j (by omega)
  rw[this];simp[hj,Zq]
theorem KU {names:List Thk.z7} {e:Thk.RE} (hk:e.kind=4):rfE names e 0=if names.contains e.text then ((names.idxOf e.text:Nat):Int) else -1:=by
 unfold rfE rf;rw[if_pos hk];simp
structure K5 (ps:List (Thk.RE × Value × Value)) (rs:List (Thk.z7 × Nat)):Prop where
 ex:∀ p ∈ ps,p.1.Fit ps.length
 ru:∀ r ∈ rs,r.2<ps.length
abbrev zK (ps:List (Thk.RE × Value × Value)):List Thk.RE:=ps.map (·.1)
abbrev zj (rs:List (Thk.z7 × Nat)):List Thk.z7:=rs.map (·.1)
abbrev Zp (rs:List (Thk.z7 × Nat)):List Nat:=rs.map (·.2)
theorem GM.exp {w:World} {B gb:Nat} {vx vr:Value} {ps:List (Thk.RE × Value × Value)} {rs:List (Thk.z7 × Nat)} {names:List Thk.z7} (h:GM w B gb vx vr (ps.map (ZY names)) rs) {i:Nat} (hi:i<ps.length) :
  ∃ (p:Thk.RE × Value × Value) (xg xc:Nat) (ia:Option Addr) (ic:Nat) (pa:Option Addr) (pc:Nat),ps[i]? = some p∧p ∈ ps∧vx = .slice (some ⟨xg,0,none⟩) ps.length xc∧xg<w.heap.size∧w.cell? ⟨xg,i * 5,none⟩=some (.int .i64 p.1.kind)∧w.cell? ⟨xg,i * 5+1,none⟩=some (.slice ia p.1.items.length ic)∧w.cell? ⟨xg,i * 5+2,none⟩=some (.string ⟨p.1.text.toArray⟩)∧w.cell? ⟨xg,i * 5+3,none⟩=some (.int .i64 (rfE names p.1 0))∧w.cell? ⟨xg,i * 5+4,none⟩=some (.slice pa p.1.parts.length pc) ∧
   ps.length≤9223372036854775807∧p.1.parts.length≤9223372036854775807∧∀ j (hj:j<p.1.parts.length),∃ pg,pa=some ⟨pg,0,none⟩∧pg<w.heap.size∧w.cell? ⟨pg,j,none⟩=some (.int .i64 p.1.parts[j]):=by
 obtain⟨xg,xc,rfl,hxB,hxl,hmx⟩:=h.exAt (by simp;omega)
 have hi':i<(ps.map (ZY names)).length:=by simpa using hi
 obtain⟨c0,c1,c2,c3,c4⟩:=h.exCells.2 i hi'
 have hpm:ps[i] ∈ ps:=List.getElem_mem hi
 have hrd : (ps.map (ZY names))[i]'hi' = ZY names ps[i] := by rw [List.getElem_map]
 rw[hrd] at c0 c1 c2 c3 c4
 have hmem:ZY names ps[i] ∈ ps.map (ZY names):=List.mem_map_of_mem hpm
 obtain⟨ia,ic,hvi⟩:=zl (h.items _ hmem)
 obtain⟨pa,pc,hvp,hpn,hpc⟩:=(h.parts _ hmem).gen
 rw[hvi] at c1
 rw[hvp] at c4
 refine⟨ps[i],xg,xc,ia,ic,pa,pc,List.getElem?_eq_getElem hi,hpm,by rw[List.length_map],hxl,c0,c1,c2,c3,c4,by unfold maxLen at hmx;simp at hmx;omega,hpn,hpc⟩
theorem Y4 {w:World} {lb:Nat} {l:List Bool} (h:w.heap[lb]? = some (zH l)) (j:Nat) (hj:j<l.length):w.cell? ⟨lb,j,none⟩=some (.bool (l.getD j false)):=by
 rw[z8 h]
 simp[hj,List.getD_eq_getElem?_getD]
theorem q6 (ps:List Thk.zR) (i j:Nat) (hi:i<ps.length) (hj:j<2):(ps.flatMap ZO)[i * 2+j]? = (ZO ps[i])[j]? := by
 induction ps generalizing i with
 | nil=>simp at hi
 | cons p ps ih=>
  have hl:(ZO p).length=2:=rfl
  cases i with
  | zero=>
   simp only[List.flatMap_cons,Nat.zero_mul,Nat.zero_add,List.getElem_cons_zero]
   rw[List.getElem?_append_left (by omega)]
  | succ i=>
   simp only[List.flatMap_cons,List.getElem_cons_succ]
   rw[List.getElem?_append_right (by omega),hl,show (i+1) * 2+j - 2=i * 2+j from by omega]
   exact ih i (by simpa using hi)
theorem Items.gen {w:World} {B:Nat} {v:Value} {rs:List Thk.zR} (h:Items w B v rs):∃ pa pc,v = .slice pa rs.length pc∧∀ j (hj:j<rs.length),∃ pg,pa=some ⟨pg,0,none⟩∧pg<w.heap.size∧w.cell? ⟨pg,j * 2,none⟩=some (.int .u8 rs[j].1.toNat)∧w.cell? ⟨pg,j * 2+1,none⟩=some (.int .u8 rs[j].2.toNat):=by
 have h':=h
 rcases h'.2 with ⟨rfl,h0⟩ | ⟨g,cap,cur,rfl,_,hg,h1,h2,_⟩
 ·exact⟨none,0,by rw[h0],fun j hj=>by omega⟩
 ·refine⟨_,cap,rfl,fun j hj=>⟨g,rfl,za hg,?_,?_⟩⟩
  ·have:=h.cellAt (g:=g) (j * 2+0) (by omega)
   rw[q6 _ _ _ hj (by decide)] at this;exact this
  ·have:=h.cellAt (g:=g) (j * 2+1) (by omega)
   rw[q6 _ _ _ hj (by decide)] at this;exact this
end Go.Proofs.YtiganlkabilblaaGreatDoor
namespace Thk
def zat (t:Tok):Prop:=t.text.length≤20∧t.spans.length≤20
def Small (ts:List Tok):Prop:=∀ t ∈ ts,zat t
mutual
def wtP:zC→Nat
  | .name b=>b.length
  | .lit b=>2+2 * b.length
  | .cls l=>2+5 * l.length
  | .any=>1
  | .group c=>2+wtC c
def wtT:Term→Nat
  | .mk _ p _=>2+wtP p
def wtS:List Term→Nat
  | []=>2
  | t::s=>1+wtT t+wtS s
def wtC:List (List Term)→Nat
  | []=>1000000
  | [s]=>3+wtS s
  | s::c=>3+wtS s+wtC c
 end
theorem zjF (s:List Term) (c:List (List Term)):wtC (s::c)≤3+wtS s+wtC c:=by
 cases c with
 | nil=>simp only[wtC];omega
 | cons s2 c=>simp only[wtC];omega
theorem Small.tail {ts:List Tok} (h:Small ts):Small ts.tail:=fun t ht=>h t (List.mem_of_mem_tail ht)
theorem Small.ahead {ts:List Tok} (h:Small ts):Small (Z9 ts).2:=by
 unfold Z9
 repeat' split
 all_goals first | exact h | exact h.tail
theorem Small.behind {ts:List Tok} (h:Small ts):Small (Zg ts).2:=by
 unfold Zg
 repeat' split
 all_goals first | exact h | exact h.tail
def WP1 (ts:List Tok) (r:Res zC):Prop:=Small ts→∀ p rest,r = .ok p rest→wtP p+200 * rest.length+50≤200 * ts.length∧Small rest
def WP2 (ts:List Tok) (r:Res Term):Prop:=Small ts→∀ p rest,r = .ok p rest→wtT p+200 * rest.length+40≤200 * ts.length∧Small rest
def WP3 (ts:List Tok) (r:Res Seq):Prop:=Small ts→∀ p rest,r = .ok p rest→wtS p+200 * rest.length≤200 * ts.length+2∧Small rest
def WP4 (ts:List Tok) (r:Res Z5):Prop:=Small ts→∀ p rest,r = .ok p rest→wtC p+200 * rest.length≤200 * ts.length+10∧Small rest
theorem za2 {ts:List Tok} {c:UInt8} (h:(hd ts).kind = .sign c) : 1≤ts.length:=by
 cases ts with
 | nil=>simp[hd,zB] at h
 | cons t ts=>simp
theorem zjB {ts:List Tok} {p:zC} (h:zU (hd ts)=some p):WP1 ts (.ok p ts.tail):=by
 intro hs p' rest e
 cases e
 cases ts with
 | nil=>simp[hd,zU,zB] at h
 | cons t ts=>
  have ht:=hs t (by simp)
  obtain⟨h1,h2⟩:=ht
  refine⟨?_,hs.tail⟩
  simp only[hd,List.headD_cons] at h
  unfold zU at h
  split at h
  ·cases h;simp[wtP];omega
  ·cases h;simp[wtP];omega
  ·cases h;simp[wtP];omega
  ·split at h
   ·cases h;simp[wtP];omega
   ·cases h
  ·cases h
theorem Z8.wt {d:Nat} {ts:List Tok} {c:Z5} {rest:List Tok} (h:Z8 d ts (.ok c rest)) (hs:Small ts):wtC c+200 * rest.length≤200 * ts.length+10∧Small rest:=by
 refine (Z8.rec (motive_1:=fun _ ts r _=>WP1 ts r) (motive_2:=fun _ ts r _=>WP2 ts r) (motive_3:=fun _ ts r _=>WP3 ts r) (motive_4:=fun _ ts r _=>WP4 ts r) ?_ ?_ ?_ ?_ ?_ ?_ ?_ ?_ ?_ ?_ ?_ ?_ ?_ ?_ ?_ ?_ h:WP4 ts (.ok c rest)) hs c rest rfl
 ·intro d ts p h;exact zjB h
 ·intro d ts h h' hs p rest e;cases e
 ·intro ts h hs p rest e;cases e
 ·intro d ts c rest h1 h2 h3 h4 ih hs p rest' e
  cases e
  obtain⟨i1,i2⟩:=ih hs.tail _ _ rfl
  have n1:=za2 h1
  have n2:=za2 h4
  refine⟨?_,i2.tail⟩
  simp only[wtP,List.length_tail] at i1 ⊢
  omega
 ·intros;intro hs p rest e;cases e
 ·intros;intro hs p rest e;cases e
 ·intro d ts p rest h ih hs t rest' e
  cases e
  obtain⟨i1,i2⟩:=ih hs.ahead _ _ rfl
  have h1:=zaW ts
  have h2:=zb3 rest
  refine⟨?_,i2.behind⟩
  simp only[wtT]
  omega
 ·intros;intro hs p rest e;cases e
 ·intro d ts h hs p rest e
  cases e
  refine⟨?_,hs⟩
  simp only[wtS]
  omega
 ·intro d ts t rest s rest' h1 h2 h3 ih1 ih2 hs p r e
  cases e
  obtain⟨i1,i2⟩:=ih1 hs _ _ rfl
  obtain⟨j1,j2⟩:=ih2 i2 _ _ rfl
  refine⟨?_,j2⟩
  simp only[wtS]
  omega
 ·intros;intro hs p rest e;cases e
 ·intros;intro hs p rest e;cases e
 ·intro d ts s rest h1 h2 ih hs p r e
  cases e
  obtain⟨i1,i2⟩:=ih hs _ _ rfl
  refine⟨?_,i2⟩
  simp only[wtC]
  omega
 ·intro d ts s rest c rest' h1 h2 h3 ih1 ih2 hs p r e
  cases e
  obtain⟨i1,i2⟩:=ih1 hs _ _ rfl
  obtain⟨j1,j2⟩:=ih2 i2.tail _ _ rfl
  have n1:=za2 h2
  refine⟨?_,j2⟩
  have hw:=zjF s c
  simp only[List.length_tail] at *
  omega
 ·intros;intro hs p rest e;cases e
 ·intros;intro hs p rest e;cases e
theorem zbl {l:z7} {n:Nat} {m:UInt8} {k:Nat} (h:ZX l n m k=true):k≤20:=by
 unfold ZX at h
 simp at h
 omega
theorem zjb (l:z7):zat (zM l):=by
 have hb:zat zB:=⟨by simp[zB],by simp[zB]⟩
 cases l with
 | nil=>exact⟨by simp[zM],by simp[zM]⟩
 | cons c t=>
  simp only[zM]
  split
  ·unfold Ql
   split
   ·exact hb
   ·refine⟨?_,by simp⟩
    rw[List.length_take];omega
  ·split
   ·exact⟨by simp,by simp⟩
   ·split
    ·unfold Qv
     split
     ·rename_i h;exact⟨zbl h,by simp⟩
     ·exact hb
    ·split
     ·unfold QB
      split
      ·rename_i h;exact⟨by simp,zbl h⟩
      ·exact hb
     ·split
      ·exact⟨by simp,by simp⟩
      ·exact hb
theorem zdd:∀ (f pos:Nat) (l:z7),Small (QC f pos l)
 | 0,_,_=>by intro t ht;simp[QC] at ht
 | f+1,pos,l=>by
  intro t ht
  simp only[QC,List.mem_cons] at ht
  rcases ht with rfl | ht
  ·exact zjb _
  ·split at ht
   ·simp at ht
   ·exact zdd f _ _ t ht
theorem ZV.wt {n:Nat} {ts:List Tok} {r:ze} {rest:List Tok} (h:ZV n ts (.ok r rest)) (hs:Small ts):wtC r.choice≤200 * ts.length+10∧r.name.length≤20∧rest.length≤ts.length∧Small rest:=by
 cases h with
 | ok hk _ _ hc=>
  obtain⟨i1,i2⟩:=hc.wt hs.tail.tail
  have hn:=hc.nc
  simp only[List.length_tail] at i1 hn
  refine⟨by simp only[];omega,?_,by omega,i2⟩
  cases ts with
  | nil=>simp[hd,zB]
  | cons t ts=>simp only[hd,List.headD_cons];exact (hs t (by simp)).1
theorem ZU.wt {n:Nat} {ts:List Tok} {g:List ze} (h:ZU n ts (.ok g)) (hs:Small ts):∀ r ∈ g,wtC r.choice≤200 * ts.length+10∧r.name.length≤20:=by
 generalize hres:(Except.ok g:Except (Nat × Nat) (List ze))=res at h
 induction h generalizing g with
 | last hr hk=>
  cases hres
  intro r hr'
  simp only[List.mem_singleton] at hr'
  subst hr'
  have:=hr.wt hs
  exact⟨this.1,this.2.1⟩
 | more hr hk _ ih=>
  cases hres
  intro r hr'
  have h1:=hr.wt hs
  rcases List.mem_cons.1 hr' with rfl | hr'
  ·exact⟨h1.1,h1.2.1⟩
  ·have:=ih h1.2.2.2 rfl r hr'
   omega
 | err hr=>cases hres
 | later _ _ _ _=>cases hres
theorem zf6 {l:z7} {g:List ze} (h:ZU 0 (Qn l) (.ok g)) (hl:l.length≤2000):∀ r ∈ g,wtC r.choice≤500000∧r.name.length≤20:=by
 intro r hr
 have h1:=h.wt (zdd _ _ _) r hr
 have h2:=zdf l
 omega
end Thk
namespace Go.Proofs.YtiganlkabilblaaGreatDoor
open Go.RowKit
attribute [local go_sem ↓] Go.wp_at_zero Go.wp_at_succ
theorem GM.exq {w:World} {B gb:Nat} {vx vr:Value} {ps:List (Thk.RE × Value × Value)} {rs:List (Thk.z7 × Nat)} {names:List Thk.z7} (h:GM w B gb vx vr (ps.map (ZY names)) rs) {k:Nat} {e:Thk.RE} (hx:(zK ps)[k]? = some e) :
  ∃ (xg xc:Nat) (ia:Option Addr) (ic:Nat) (pa:Option Addr) (pc:Nat),k<ps.length∧vx = .slice (some ⟨xg,0,none⟩) ps.length xc∧xg<w.heap.size∧w.cell? ⟨xg,k * 5,none⟩=some (.int .i64 e.kind)∧w.cell? ⟨xg,k * 5+1,none⟩=some (.slice ia e.items.length ic)∧w.cell? ⟨xg,k * 5+2,none⟩=some (.string ⟨e.text.toArray⟩)∧w.cell? ⟨xg,k * 5+3,none⟩=some (.int .i64 (rfE names e 0))∧w.cell? ⟨xg,k * 5+4,none⟩=some (.slice pa e.parts.length pc) ∧
   ps.length≤9223372036854775807∧e.parts.length≤9223372036854775807∧(∀ j (hj:j<e.parts.length),∃ pg,pa=some ⟨pg,0,none⟩∧pg<w.heap.size∧w.cell? ⟨pg,j,none⟩=some (.int .i64 e.parts[j]))∧Items w B (.slice ia e.items.length ic) e.items:=by
 have hi:k<ps.length:=by
  have:=(List.getElem?_eq_some_iff.1 hx).1
  simpa using this
 have hep:e=ps[k].1:=by
  rw[List.getElem?_map,List.getElem?_eq_getElem hi] at hx
  simpa using hx.symm
 subst hep
 obtain⟨xg,xc,rfl,hxB,hxl,hmx⟩:=h.exAt (by simp;omega)
 have hi':k<(ps.map (ZY names)).length:=by simpa using hi
 obtain⟨c0,c1,c2,c3,c4⟩:=h.exCells.2 k hi'
 have hpm:ps[k] ∈ ps:=List.getElem_mem hi
 have hrd : (ps.map (ZY names))[k]'hi' = ZY names ps[k] := by rw [List.getElem_map]
 rw[hrd] at c0 c1 c2 c3 c4
 have hmem:ZY names ps[k] ∈ ps.map (ZY names):=List.mem_map_of_mem hpm
 obtain⟨ia,ic,hvi⟩:=zl (h.items _ hmem)
 obtain⟨pa,pc,hvp,hpn,hpc⟩:=(h.parts _ hmem).gen
 have hit:=h.items _ hmem
 rw[hvi] at c1 hit
 rw[hvp] at c4
 exact⟨xg,xc,ia,ic,pa,pc,hi,by rw[List.length_map],hxl,c0,c1,c2,c3,c4,by unfold maxLen at hmx;simp at hmx;omega,hpn,hpc,hit⟩
theorem Items.below {w w':World} {B:Nat} {v:Value} {rs:List Thk.zR} (h:Items w B v rs) (hb:Below w.heap.size w w'):Items w' B v rs:=Zv h hb
end Go.Proofs.YtiganlkabilblaaGreatDoor
namespace Go.Proofs.YtiganlkabilblaaGreatDoor
open Go.RowKit Thk
def zF:Option Nat→Int
 | none=>-1
 | some e=>e
theorem zeH (v:Option Nat):zF v≠-2:=by
 cases v with
 | none=>simp[zF]
 | some e=>simp only[zF];omega
theorem zcA {F:REv} {n:Nat} (h:∀ i k e,F i k=some (some e)→k≤n→k≤e∧e≤n):∀ js k e,Jb F js k=some (some e)→k≤n→k≤e∧e≤n
 | [],k,e,hs,hk=>by simp[Jb] at hs;subst hs;exact⟨Nat.le_refl _,hk⟩
 | j::js,k,e,hs,hk=>by
  simp only[Jb] at hs
  split at hs
  ·cases hs
  ·cases hs
  ·rename_i e1 h1
   have a:=h j k e1 h1 hk
   have b:=zcA h js e1 e hs a.2
   omega
theorem zba {F:REv} {n:Nat} (h:∀ i k e,F i k=some (some e)→k≤n→k≤e∧e≤n):∀ js k e,chR F js k=some (some e)→k≤n→k≤e∧e≤n
 | [],k,e,hs,hk=>by simp[chR] at hs
 | j::js,k,e,hs,hk=>by
  simp only[chR] at hs
  split at hs
  ·cases hs
  ·exact zba h js k e hs hk
  ·rename_i e1 h1
   cases hs
   exact h j k _ h1 hk
theorem zcl {F:REv} {n:Nat} (h:∀ i k e,F i k=some (some e)→k≤n→k≤e∧e≤n) (j:Nat):∀ c o k e,Zf F j c o k=some (some e)→k≤n→(∀ x,o=some x→k≤x∧x≤n)→k≤e∧e≤n
 | 0,_,_,_,hs,_,_=>by simp[Zf] at hs
 | c+1,none,k,e,hs,hk,_=>by simp[Zf] at hs;subst hs;exact⟨Nat.le_refl _,hk⟩
 | c+1,some x,k,e,hs,hk,ho=>by
  simp only[Zf] at hs
  have hx:=ho x rfl
  split at hs
  ·cases hs
  ·rename_i o2 h1
   have:=zcl h j c o2 x e hs hx.2 (fun y hy=>by subst hy;exact h j x y h1 hx.2)
   omega
theorem zec {inp:z7} {e:RE} {k x:Nat} (h:Yh inp e k=some x) (hk:k≤inp.length):k≤x∧x≤inp.length:=by
 unfold Yh at h
 split at h
 ·split at h
  ·cases h;omega
  ·cases h
 ·split at h
  ·split at h
   ·cases h
   ·rename_i c hc
    have:=(List.getElem?_eq_some_iff.1 hc).1
    split at h
    ·cases h;omega
    ·cases h
  ·split at h
   ·rename_i hp
    cases h
    have:=(List.isPrefixOf_iff_prefix.1 hp).length_le
    rw[List.length_drop,List.length_map] at this
    omega
   ·cases h
theorem JO {xs:List RE} {names:List z7} {bodies:List Nat} {inp:z7}:∀ f i k e,evR xs names bodies inp f i k=some (some e)→k≤inp.length→k≤e∧e≤inp.length
 | 0,_,_,_,h,_=>by simp[evR] at h
 | f+1,i,k,e,h,hk=>by
  have ih:=JO (xs:=xs) (names:=names) (bodies:=bodies) (inp:=inp) f
  simp only[evR] at h
  split at h
  ·cases h
  ·rename_i x hx
   split at h
   rotate_left
   ·cases h
   unfold QH at h
   split at h
   ·exact zec (Option.some.inj h) hk
   ·split at h
    ·exact ih _ _ _ h hk
    ·split at h
     ·exact zcA ih _ _ _ h hk
     ·split at h
      ·exact zba ih _ _ _ h hk
      ·unfold Jq at h
       split at h
       ·cases h
       ·rename_i n hn
        split at h
        ·have:=Option.some.inj h
         cases n with
         | none=>simp at this;subst this;exact⟨Nat.le_refl _,hk⟩
         | some y=>simp at this;subst this;exact ih _ _ _ hn hk
        ·split at h
         ·have:=Option.some.inj h
          split at this<;>cases this
          exact⟨Nat.le_refl _,hk⟩
         ·split at h
          ·have:=Option.some.inj h
           split at this<;>cases this
           exact⟨Nat.le_refl _,hk⟩
          ·split at h
           ·cases h
           ·exact zcl ih _ _ _ _ _ h hk (fun y hy=>by subst hy;exact ih _ _ _ hn hk)
abbrev Tab:=Nat→Nat→Int
def JB (n:Nat) (f:Nat→Int):List Int:=(List.range n).map f
def KM (l:List Int):Obj:=.cells (l.map (Value.int .i64)).toArray 3 (0,0)
theorem zi1 (n:Nat) (f:Nat→Int) (t:Nat) (u:Int):(JB n f).set t u=JB n (fun j=>if j=t then u else f j):=by
 apply List.ext_getElem
 ·simp[JB]
 ·intro i h1 h2
  simp only[JB,List.getElem_set,List.getElem_map,List.getElem_range]
  by_cases e:t=i
  ·subst e;simp
  ·have:¬ i=t:=fun h=>e h.symm
   simp[e,this]
theorem KpM.of_below {rbs:List Nat} {w w':World} (h:Below w.heap.size w w'):KpM rbs w.heap.size w w':=⟨h.os,h.tape,h.output,h.size,fun k hk _=>h.block k hk⟩
theorem KpM.mono {rbs:List Nat} {B B':Nat} {w w':World} (h:KpM rbs B w w') (hb:B'≤B):KpM rbs B' w w':=⟨h.os,h.tape,h.output,h.size,fun k hk hr=>h.block k (by omega) hr⟩
theorem KpM.go {rbs:List Nat} {w w1 w2:World} (h:KpM rbs w.heap.size w w1) (k:KpM rbs w1.heap.size w1 w2):KpM rbs w.heap.size w w2:=h.trans (k.mono h.size)
structure Y1 (w0 w:World) (tb eb ec:Nat) (vx vr:Value) (s:ByteArray) (rbs:List Nat) (M:Tab):Prop where
 size:w0.heap.size≤w.heap.size
 old:∀ b,b<w0.heap.size→w.heap[b]? = w0.heap[b]?
 blk:w.heap[tb]? = some (.cells #[vx,vr,.string s,.slice (some ⟨eb,0,none⟩) rbs.length ec] 161 (0,0))
 elt:eb<w.heap.size
 ends:∀ i (h:i<rbs.length),w.cell? ⟨eb,i,none⟩=some (.slice (some ⟨rbs[i],0,none⟩) (s.size+1) (s.size+1))
 row:∀ i (h:i<rbs.length),w.heap[rbs[i]]? = some (KM (JB (s.size+1) (M i)))
 nodup:rbs.Nodup
 rge:∀ b ∈ rbs,w0.heap.size≤b
 tn:tb ∉ rbs
 en:eb ∉ rbs
theorem Y1.kept {w0 w w':World} {tb eb ec:Nat} {vx vr:Value} {s:ByteArray} {rbs:List Nat} {M:Tab} (h:Y1 w0 w tb eb ec vx vr s rbs M) (hb:Below w.heap.size w w'):Y1 w0 w' tb eb ec vx vr s rbs M:=by
 have hs:=h.size
 have hz:=hb.size
 refine⟨by omega,fun b hb'=>by rw[hb.block b (by omega)];exact h.old b hb',by rw[hb.block _ (zd h.blk)];exact h.blk,by have:=h.elt;omega,fun i hi=>?_,fun i hi=>?_,h.nodup,h.rge,h.tn,h.en⟩
 ·rw[hb.cell (p:=⟨eb,i,none⟩) h.elt];exact h.ends i hi
 ·rw[hb.block _ (zd (h.row i hi))];exact h.row i hi
theorem Y1.at {w0 w:World} {tb eb ec:Nat} {vx vr:Value} {s:ByteArray} {rbs:List Nat} {M:Tab} (h:Y1 w0 w tb eb ec vx vr s rbs M) (i k:Nat) (hi:i<rbs.length) (hk:k≤s.size):w.cell? ⟨rbs[i],k,none⟩=some (.int .i64 (M i k)):=by
 rw[z8 (h.row i hi)]
 have:k<s.size+1:=by omega
 simp[JB,this]
theorem zft (l:List Int) (t:Nat) (u:Int):(Obj.cells ((l.map (Value.int .i64)).toArray.setIfInBounds t (.int .i64 u)) 3 (0,0))=KM (l.set t u):=by
 unfold KM
 simp[List.map_set]
theorem Y1.set {w0 w:World} {tb eb ec:Nat} {vx vr:Value} {s:ByteArray} {rbs:List Nat} {M:Tab} (h:Y1 w0 w tb eb ec vx vr s rbs M) (f t:Nat) (hf:f<rbs.length) (u:Int):Y1 w0 (w.setCell ⟨rbs[f],t,none⟩ (.int .i64 u)) tb eb ec vx vr s rbs (fun i j=>if i=f∧j=t then u else M i j):=by
 have hmem:rbs[f] ∈ rbs:=List.getElem_mem hf
 have hne:∀ b,b ∉ rbs→(w.setCell ⟨rbs[f],t,none⟩ (.int .i64 u)).heap[b]? = w.heap[b]? := fun b hb=>Below.heap_setCell _ _ _ _ (fun e=>hb (e ▸ hmem))
 refine⟨by simpa [World.setCell] using h.size,fun b hb=>?_,by rw[hne _ h.tn];exact h.blk,by simpa [World.setCell] using h.elt,fun i hi=>?_,fun i hi=>?_,h.nodup,h.rge,h.tn,h.en⟩
 ·rw[hne b (fun hb'=>by have:=h.rge b hb';omega)];exact h.old b hb
 ·rw[World.cell?_of_block (a:=⟨eb,i,none⟩) (hne eb h.en)];exact h.ends i hi
 ·by_cases e:i=f
  ·subst e
   rw[zo (h.row i hi)]
   show some _=_
   have:=zft (JB (s.size+1) (M i)) t u
   rw[zi1] at this
   rw[show (fun j=>if i=i∧j=t then u else M i j)=(fun j=>if j=t then u else M i j) from by funext j;simp]
   rw[← this]
  ·have hne2:rbs[i]≠rbs[f]:=fun e2=>e ((List.getElem_inj h.nodup).1 e2)
   rw[Below.heap_setCell _ _ _ _ hne2,h.row i hi]
   congr 3
   funext j
   simp[e]
def Snd (xs:List RE) (names:List z7) (bodies:List Nat) (inp:z7) (M:Tab):Prop:=∀ i k,k≤inp.length→M i k = -2∨∃ f v,evR xs names bodies inp f i k=some v∧M i k=zF v
theorem Snd.set {xs:List RE} {names:List z7} {bodies:List Nat} {inp:z7} {M:Tab} (h:Snd xs names bodies inp M) {f i k:Nat} {v:Option Nat} (hv:evR xs names bodies inp f i k=some v):Snd xs names bodies inp (fun a b=>if a=i∧b=k then zF v else M a b):=by
 intro a b hb
 by_cases e:a=i∧b=k
 ·obtain⟨rfl,rfl⟩:=e
  exact .inr ⟨f,v,hv,by simp⟩
 ·simp only[if_neg e];exact h a b hb
end Go.Proofs.YtiganlkabilblaaGreatDoor
namespace Go.Proofs.YtiganlkabilblaaGreatDoor
open Go.RowKit Thk
attribute [local go_sem ↓] Go.wp_at_zero Go.wp_at_succ
theorem zfz (a b:Nt) (w:World):Calls Tryz.prog 203 #[ntV a,ntV b] w fun e w'=>e = .returned (ntV (jn a b))∧w'=w:=by
 cases a with
 | nil=>
  simp only[ntV,jn]
  generalize ntV b=v
  go_enter Tryz.func203,Tryz.ntmps203
  go_wp2_with fail
  go_ret
  exact⟨rfl,rfl⟩
 | use i x y m=>
  cases b with
  | nil=>
   simp only[ntV,jn]
   go_enter Tryz.func203,Tryz.ntmps203
   go_wp2_with fail
   go_ret
   exact⟨rfl,rfl⟩
  | use i2 x2 y2 m2=>
   simp only[ntV,jn]
   go_enter Tryz.func203,Tryz.ntmps203
   go_wp2_with fail
   go_ret
   exact⟨rfl,rfl⟩
  | pair p q=>
   simp only[ntV,jn]
   go_enter Tryz.func203,Tryz.ntmps203
   go_wp2_with fail
   go_ret
   exact⟨rfl,rfl⟩
 | pair p q=>
  cases b with
  | nil=>
   simp only[ntV,jn]
   go_enter Tryz.func203,Tryz.ntmps203
   go_wp2_with fail
   go_ret
   exact⟨rfl,rfl⟩
  | use i2 x2 y2 m2=>
   simp only[ntV,jn]
   go_enter Tryz.func203,Tryz.ntmps203
   go_wp2_with fail
   go_ret
   exact⟨rfl,rfl⟩
  | pair p2 q2=>
   simp only[ntV,jn]
   go_enter Tryz.func203,Tryz.ntmps203
   go_wp2_with fail
   go_ret
   exact⟨rfl,rfl⟩
theorem QV (a:Nt):ntV a = .nilIface∨∃ t x,ntV a = .iface t x:=by
 cases a with
 | nil=>exact .inl rfl
 | use i x y m=>exact .inr ⟨_,_,rfl⟩
 | pair p q=>exact .inr ⟨_,_,rfl⟩
abbrev Zz (vr:Value) (s:ByteArray) (tv:Value) (nt:Value):Obj:=.cells #[vr,.string s,tv,nt] 177 (0,0)
theorem KQ (w:World) (mb:Nat) (vr:Value) (s:ByteArray) (tv:Value) (a b:Nt) (h:w.heap[mb]? = some (Zz vr s tv (ntV a))) :
  Calls Tryz.prog 192 #[.pointer (some ⟨mb,0,none⟩),ntV b] w fun e w'=>e = .returned (.tuple #[])∧w'=w.setCell ⟨mb,3,none⟩ (ntV (jn a b)):=by
 have q:w.cell? ⟨mb,3,none⟩=some (ntV a):=z8 h 3
 have fz:=zi h 3
 have hl:=zd h
 have hj:=zfz a b w
 have HJ:=z6 hj
 have hf:=QV (jn a b)
 generalize ntV b=vb at *
 generalize ntV (jn a b)=vj at *
 generalize ntV a=va at *
 clear h hj
 rcases hf with rfl | ⟨t,x,rfl⟩
 all_goals
  go_enter Tryz.func192,Tryz.ntmps192
  go_wp2_with fail
  refine HJ.out.mono ?_
  rintro _ w1 ⟨rfl,hw⟩
  replace hw:=hw.symm
  subst hw
  go_wp2_with fail
  go_end0
  exact⟨rfl,rfl⟩
theorem zj3 (w:World) (mb:Nat) (vr:Value) (s:ByteArray) (tv a:Value) (b:Nt) (h:w.heap[mb]? = some (Zz vr s tv a)) :
  Calls Tryz.prog 152 #[.pointer (some ⟨mb,0,none⟩),ntV b] w fun e w'=>e = .returned (.tuple #[])∧w'=w.setCell ⟨mb,3,none⟩ (ntV b):=by
 have q:w.cell? ⟨mb,3,none⟩=some a:=z8 h 3
 have fz:=zi h 3
 have hl:=zd h
 have hf:=QV b
 generalize ntV b=vb at *
 clear h
 rcases hf with rfl | ⟨t,x,rfl⟩
 all_goals
  go_enter Tryz.func152,Tryz.ntmps152
  go_wp2_with fail
  go_end0
  exact⟨rfl,rfl⟩
theorem V0 (w:World) (mb:Nat) (u:FrameMode) (vr:Value) (s:ByteArray) (tv a:Value) (b:Nt) (h:w.heap[mb]? = some (Zz vr s tv a)) :
  CallsD Tryz.prog 152 #[.pointer (some ⟨mb,0,none⟩),ntV b] u w fun e u' w'=>u'=u∧(e = .returned (.tuple #[])∧w'=w.setCell ⟨mb,3,none⟩ (ntV b)):=by
 have q:w.cell? ⟨mb,3,none⟩=some a:=z8 h 3
 have fz:=zi h 3
 have hl:=zd h
 have hf:=QV b
 generalize ntV b=vb at *
 clear h
 rcases hf with rfl | ⟨t,x,rfl⟩
 all_goals
  go_enter_d Tryz.func152,Tryz.ntmps152
  go_wp2
  go_end0
  exact⟨rfl,rfl⟩
abbrev z9 (b:Nat):Value:=.pointer (some ⟨b,0,none⟩)
abbrev zT (x:Nat × Nat × Nat):Value:=.func (.func 177) #[] #[z9 x.1,z9 x.2.1,z9 x.2.2]
def clV (bx:List (Nat × Nat × Nat)) (n:Nat):Value:=zT (bx.getD n (0,0,0))
abbrev zh (v:Value) (t:TypeId):Obj:=.cells #[v] t (0,0)
def Yu (w:World) (mb:Nat) (bx:List (Nat × Nat × Nat)) (ks:List Nat) (a:Option Addr):Prop:=∀ j (h:j<ks.length),∃ g,a=some ⟨g,0,none⟩∧g<w.heap.size∧g≠mb∧w.cell? ⟨g,j,none⟩=some (clV bx ks[j])
def Inn (w:World) (mb:Nat) (bx:List (Nat × Nat × Nat)) (n:Nat) (iv:Value):Nd→Prop
 | .choice ks=>∃ bs a c,iv = .func (.func 151) #[] #[z9 bs]∧w.heap[bs]? = some (zh (.slice a ks.length c) 175)∧Yu w mb bx ks a∧ks.length≤1000000
 | .seq ks=>∃ bm bs a c,iv = .func (.func 175) #[] #[z9 bm,z9 bs]∧w.heap[bm]? = some (zh (z9 mb) 113)∧w.heap[bs]? = some (zh (.slice a ks.length c) 175)∧Yu w mb bx ks a∧ks.length≤1000000
 | .ahead k wd=>∃ bm be bw,iv = .func (.func 202) #[] #[z9 bm,z9 be,z9 bw]∧w.heap[bm]? = some (zh (z9 mb) 113)∧w.heap[be]? = some (zh (clV bx k) 226)∧w.heap[bw]? = some (zh (.bool wd) 4)
 | .maybe k=>∃ be,iv = .func (.func 212) #[] #[z9 be]∧w.heap[be]? = some (zh (clV bx k) 226)
 | .plus k=>∃ be bp,iv = .func (.func 213) #[] #[z9 be,z9 bp]∧w.heap[be]? = some (zh (clV bx k) 226)∧w.heap[bp]? = some (zh (clV bx n) 226)
 | .name i=>∃ bm bi,iv = .func (.func 215) #[] #[z9 bm,z9 bi]∧w.heap[bm]? = some (zh (z9 mb) 113)∧w.heap[bi]? = some (zh (.int .i64 i) 3)
 | .lit b=>∃ bm bt,iv = .func (.func 216) #[] #[z9 bm,z9 bt]∧w.heap[bm]? = some (zh (z9 mb) 113)∧w.heap[bt]? = some (zh (.string ⟨b.toArray⟩) 9)∧b.length≤20
 | .cls l=>∃ bm bh bs u,iv = .func (.func 220) #[] #[z9 bm,z9 bh]∧w.heap[bm]? = some (zh (z9 mb) 113)∧w.heap[bh]? = some (zh (.func (.func 217) #[] #[z9 bs]) 287)∧w.heap[bs]? = some (zh u 235)∧Qr w 0 u l∧l.length≤20
 | .any=>∃ bm bh,iv = .func (.func 220) #[] #[z9 bm,z9 bh]∧w.heap[bm]? = some (zh (z9 mb) 113)∧w.heap[bh]? = some (zh (.func (.func 211) #[] #[]) 287)
structure Mde (wM:World) (mb:Nat) (N:List Nd) (bx:List (Nat × Nat × Nat)) (rules:List Nat) (vr:Value):Prop where
 clo:∀ n d,N[n]? = some d→∃ iv,wM.heap[(bx.getD n (0,0,0)).1]? = some (zh (z9 mb) 113)∧wM.heap[(bx.getD n (0,0,0)).2.1]? = some (zh (.int .i64 n) 3)∧wM.heap[(bx.getD n (0,0,0)).2.2]? = some (zh iv 226)∧Inn wM mb bx n iv d
 rul:∃ rb rc,vr = .slice (some ⟨rb,0,none⟩) rules.length rc∧rb<wM.heap.size∧rb≠mb∧∀ i (h:i<rules.length),wM.cell? ⟨rb,i,none⟩=some (clV bx rules[i])
 mat:∃ sv tv nv,wM.heap[mb]? = some (.cells #[vr,sv,tv,nv] 177 (0,0))
structure MS (wM:World) (mb tb:Nat) (N:List Nd) (rules:List Nat) (vr:Value) (s:ByteArray) (nt:Nt) (w:World):Prop where
 size:wM.heap.size≤w.heap.size
 old:∀ b,b<wM.heap.size→b≠mb→w.heap[b]? = wM.heap[b]?
 mlt:mb<wM.heap.size
 blk:w.heap[mb]? = some (Zz vr s (.map (some tb)) (ntV nt))
 tge:wM.heap.size≤tb
 memo:∃ L,Qz w tb L∧∀ n k r,ZK L n k=some r→∃ f,evN N rules s.data.toList f n k=some r
theorem Qz.lt {w:World} {tb:Nat} {L:J3} (h:Qz w tb L):tb<w.heap.size:=by
 obtain⟨es,cl,hb,_⟩:=h
 exact zd hb
theorem Qz.same {w w':World} {tb:Nat} {L:J3} (h:Qz w tb L) (hb:w'.heap[tb]? = w.heap[tb]?):Qz w' tb L:=by
 obtain⟨es,cl,h1,h2⟩:=h
 exact⟨es,cl,by rw[hb];exact h1,h2⟩
theorem MS.below {wM:World} {mb tb:Nat} {N:List Nd} {rules:List Nat} {vr:Value} {s:ByteArray} {nt:Nt} {w w':World} (h:MS wM mb tb N rules vr s nt w) (hb:Below w.heap.size w w'):MS wM mb tb N rules vr s nt w':=by
 have h1:=h.size
 have h2:=hb.size
 have h3:=h.mlt
 obtain⟨L,hL,hS⟩:=h.memo
 exact⟨by omega,fun b hb1 hb2=>(hb.block b (by omega)).trans (h.old b hb1 hb2),h.mlt,by rw[hb.block _ (by omega)];exact h.blk,h.tge,L,hL.same (hb.block _ hL.lt),hS⟩
theorem MS.noted {wM:World} {mb tb:Nat} {N:List Nd} {rules:List Nat} {vr:Value} {s:ByteArray} {nt:Nt} {w:World} (h:MS wM mb tb N rules vr s nt w) (nt':Nt):MS wM mb tb N rules vr s nt' (w.setCell ⟨mb,3,none⟩ (ntV nt')):=by
 obtain⟨L,hL,hS⟩:=h.memo
 have hne:tb≠mb:=by have:=h.mlt;have:=h.tge;omega
 refine⟨by simpa [World.setCell] using h.size,fun b hb1 hb2=>?_,h.mlt,?_,h.tge,L,hL.same (Below.heap_setCell _ _ _ _ hne),hS⟩
 ·rw[Below.heap_setCell _ _ _ _ hb2];exact h.old b hb1 hb2
 ·rw[zo h.blk];rfl
theorem MS.low {wM:World} {mb tb:Nat} {N:List Nd} {rules:List Nat} {vr:Value} {s:ByteArray} {nt:Nt} {B:Nat} {w w':World} (h:MS wM mb tb N rules vr s nt w) (hB:wM.heap.size≤B) (ht:tb<B) (hb:Below B w w'):MS wM mb tb N rules vr s nt w':=by
 have h1:=h.size
 have h2:=hb.size
 have h3:=h.mlt
 obtain⟨L,hL,hS⟩:=h.memo
 exact⟨by omega,fun b hb1 hb2=>(hb.block b (by omega)).trans (h.old b hb1 hb2),h.mlt,by rw[hb.block _ (by omega)];exact h.blk,h.tge,L,hL.same (hb.block _ ht),hS⟩
theorem MS.tlt {wM:World} {mb tb:Nat} {N:List Nd} {rules:List Nat} {vr:Value} {s:ByteArray} {nt:Nt} {w:World} (h:MS wM mb tb N rules vr s nt w):tb<w.heap.size:=by
 obtain⟨L,hL,_⟩:=h.memo
 exact hL.lt
theorem KpM.low {rbs:List Nat} {B:Nat} {a w w':World} (h:KpM rbs B a w) (hb:Below B w w'):KpM rbs B a w':=⟨hb.os.trans h.os,hb.tape.trans h.tape,hb.output.trans h.output,Nat.le_trans h.size hb.size,fun k hk hr=>(hb.block k hk).trans (h.block k hk hr)⟩
theorem KpM.noted {mb tb:Nat} {B:Nat} {a w:World} (h:KpM [mb,tb] B a w) (u:Value):KpM [mb,tb] B a (w.setCell ⟨mb,3,none⟩ u):=h.set (by simp) u
end Go.Proofs.YtiganlkabilblaaGreatDoor
