import Derived.Test.YtiganlkabilblaaGreatDoorVL10
import Derived.Test.YtiganlkabilblaaGreatDoorVL11
import Derived.Deep.RegionHeldLaw
import Derived.Deep.RegionLaw
import Derived.Deep.DrawnRows
import Derived.BigQuiet
import Derived.Deep.CutRange
import Derived.Test.YtiganlkabilblaaGreatDoorVL13
import Derived.Laws.StructEq
import Derived.Test.YtiganlkabilblaaGreatDoorVL12
import Derived.Defers
import Derived.RegionTactic
import Derived.BigRegion
set_option linter.all false
set_option maxHeartbeats 64000000
set_option maxRecDepth 100000
namespace Go.Proofs.YtiganlkabilblaaGreatDoor
open Go.RowKit
attribute [local go_sem ↓] Go.wp_at_zero Go.wp_at_succ
def rf (names:List Thk.z7) (b:Thk.z7) (k:Nat):Int:=if (names.drop k).contains b then ((k+(names.drop k).idxOf b:Nat):Int) else -1
end Go.Proofs.YtiganlkabilblaaGreatDoor
namespace Go.Proofs.YtiganlkabilblaaGreatDoor
open Go.RowKit Thk
attribute [local go_sem ↓] Go.wp_at_zero Go.wp_at_succ
def ntV:Nt→Value
 | .nil=>.nilIface
 | .use i a b m=>.iface 108 (.agg #[.int .i64 i,.int .i64 a,.int .i64 b,ntV m])
 | .pair a b=>.iface 342 (.agg #[ntV a,ntV b])
def zN:Out→Nat
 | none=>0
 | some x=>x.1
def Zm:Out→Nt
 | none=>.nil
 | some x=>x.2
abbrev Q9 (r:Out):Value:=.agg #[.int .i64 (zN r),.bool r.isSome]
abbrev Qb (r:Out):Value:=.agg #[.int .i64 (zN r),.bool r.isSome,ntV (Zm r)]
abbrev Q0 (n k:Nat):Value:=.agg #[.int .i64 n,.int .i64 k]
theorem qL (b:Bool) (n k:Int) (w:World):(Instr.checkKey b 10000 328 (.agg #[.int .i64 n,.int .i64 k])).run Tryz.prog w = .ok () w:=by kernel_rfl
theorem zeL (a b c d:Int) (w:World):(Op.equal 328 (.agg #[.int .i64 a,.int .i64 b]) (.agg #[.int .i64 c,.int .i64 d])).run Tryz.prog w = .ok (a == c && b == d) w:=by
 unfold Op.equal
 rw[show Op.maxDepth=9999+1 from rfl,run_equalIn_agg w 9999 328 _ _ (by kernel_rfl) (by kernel_rfl)]
 rw[show (Tryz.prog.fieldsOf 328).toList=[{ name := "expression", type:=3,offset:=0,embedded:=false,tag := "", pkgPath := "thicket/match", byteOffset:=0 },{ name := "place", type:=3,offset:=1,embedded:=false,tag := "", pkgPath := "thicket/match", byteOffset:=8 }] by kernel_rfl]
 have p1:∀ (x y:Int) (w:World) , (part 3 #[.int .i64 x,.int .i64 y] 0).run Tryz.prog w = .ok (.int .i64 x) w:=fun _ _ w=>by kernel_rfl
 have p2:∀ (x y:Int) (w:World) , (part 3 #[.int .i64 x,.int .i64 y] 1).run Tryz.prog w = .ok (.int .i64 y) w:=fun _ _ w=>by kernel_rfl
 have e1:∀ (x y:Int) (w:World),(Op.equalIn 9999 3 (.int .i64 x) (.int .i64 y)).run Tryz.prog w = .ok (x == y) w:=fun x y w=>run_equalIn_int w 9998 3 .i64 .i64 x y Tryz.underlying3
 simp only[Op.eqFields,Sem.run_bind,Sem.run_ite,p1,p2,e1,Result.andThen_ok,Sem.run_pure]
 cases (a == c)<;>cases (b == d)<;>simp
abbrev J3:=List ((Nat × Nat) × Out)
def Yb (L:J3):List (Value × Value):=L.map fun p=>(Q0 p.1.1 p.1.2,Qb p.2)
def ZK (L:J3) (n k:Nat):Option Out:=(L.find? (fun p=>p.1.1 == n && p.1.2 == k)).map (·.2)
def Qz (w:World) (tb:Nat) (L:J3):Prop:=∃ es clock,w.heap[tb]? = some (.map es clock)∧es.toList.map (fun x=>(x.key,x.val))=Yb L
theorem ze2 (a b:Nat):((a:Int) == (b:Int))=(a == b):=by
 rw[Bool.eq_iff_iff,beq_iff_eq,beq_iff_eq];omega
theorem zb0 (n k:Nat) (w:World):∀ (es:List MapEntry) (L:J3) (i:Nat),es.map (fun x=>(x.key,x.val))=Yb L →
  (Instr.findAsking 328 (Q0 n k) es i).run Tryz.prog w=(match ZK L n k with
   | none=>.ok none w
   | some r=>.ok (some (i+L.findIdx (fun p=>p.1.1 == n && p.1.2 == k),Qb r)) w)
 | [],L,i,h=>by
  have:L=[]:=by
   cases L with
   | nil=>rfl
   | cons a L=>simp[Yb] at h
  subst this
  simp[Instr.findAsking,ZK]
 | e::es,[],i,h=>by simp[Yb] at h
 | e::es,p::L,i,h=>by
  simp only[Yb,List.map_cons,List.cons.injEq,Prod.mk.injEq] at h
  obtain⟨⟨h1,h2⟩,h3⟩:=h
  have ih:=zb0 n k w es L (i+1) h3
  have heq:=zeL (n:Int) (k:Int) (p.1.1:Int) (p.1.2:Int) w
  simp only[Instr.findAsking,Sem.run_bind,h1]
  rw[heq]
  simp only[Result.andThen_ok,ze2]
  have hsw:(n == p.1.1 && k == p.1.2)=(p.1.1 == n && p.1.2 == k):=by
   rw[Bool.eq_iff_iff]
   simp only[Bool.and_eq_true,beq_iff_eq]
   constructor<;>rintro⟨a,b⟩<;>exact⟨a.symm,b.symm⟩
  rw[hsw]
  cases hb:(p.1.1 == n && p.1.2 == k) with
  | true=>
   simp only[if_true,Sem.run_pure,ZK,List.find?_cons,hb,List.findIdx_cons]
   simp[h2]
  | false=>
   simp only[Bool.false_eq_true,if_false,ZK,List.find?_cons,hb,List.findIdx_cons]
   rw[ih]
   simp only[ZK,cond_false]
   cases hm:Option.map (fun x=>x.2) (L.find? (fun p=>p.1.1 == n && p.1.2 == k)) with
   | none=>rfl
   | some r=>
    simp only[]
    rw[show i+1+L.findIdx (fun p=>p.1.1 == n && p.1.2 == k)=i+(L.findIdx (fun p=>p.1.1 == n && p.1.2 == k)+1) from by omega]
theorem qW (n k:Nat) (w:World) (es:List MapEntry) (L:J3) (h:es.map (fun x=>(x.key,x.val))=Yb L) :
  (Instr.findKey 328 (Q0 n k) es).run Tryz.prog w=(match ZK L n k with
   | none=>.ok none w
   | some r=>.ok (some (L.findIdx (fun p=>p.1.1 == n && p.1.2 == k),Qb r)) w):=by
 unfold Instr.findKey
 simp only[Sem.run_bind,run_underlying Tryz.underlying328,Result.andThen_ok]
 cases es with
 | nil=>
  have:L=[]:=by
   cases L with
   | nil=>rfl
   | cons a L=>simp[Yb] at h
  subst this
  simp[Instr.findNow,ZK]
 | cons e es=>
  simp only[Instr.findNow,Instr.sameNow]
  have:=zb0 n k w (e::es) L 0 h
  rw[this]
  simp
theorem Qz.look {w:World} {tb:Nat} {L:J3} (h:Qz w tb L) (n k:Nat) :
  (Instr.lookup 174 (.map (some tb)) (Q0 n k) true).run Tryz.prog w = .ok (.tuple #[Qb ((ZK L n k).getD none),.bool (ZK L n k).isSome]) w:=by
 obtain⟨es,clock,hb,hl⟩:=h
 have hz:∀ w,(zeroValue 231).run Tryz.prog w = .ok (.agg #[.int .i64 0,.bool false,.nilIface]) w:=fun w=>Tryz.zeroValue231 w
 have hck:=qL es.isEmpty (n:Int) (k:Int) w
 have hfd:=qW n k w es.toList L hl
 cases hm:ZK L n k with
 | none=>
  rw[hm] at hfd
  simp only[] at hfd
  simp[Instr.lookup,run_underlying Tryz.underlying174,MapKept.run_getObj_map hb,hck,hfd,hz,Result.andThen,zN,Zm,ntV]
 | some r=>
  rw[hm] at hfd
  simp only[] at hfd
  simp[Instr.lookup,run_underlying Tryz.underlying174,MapKept.run_getObj_map hb,hck,hfd,Result.andThen]
abbrev JU (w:World) (b:Nat) (o:Obj):World:={ w with heap:=w.heap.setIfInBounds b o }
theorem Qz.put {w:World} {tb:Nat} {L:J3} (h:Qz w tb L) (n k:Nat) (r:Out) (hn:ZK L n k=none) :
  ∃ o,(Instr.mapUpdate 174 (.map (some tb)) (Q0 n k) (Qb r)).run Tryz.prog w = .ok () (JU w tb o)∧Qz (JU w tb o) tb (L++[((n,k),r)]):=by
 obtain⟨es,clock,hb,hl⟩:=h
 have hck:=qL false (n:Int) (k:Int) w
 have hfd:=qW n k w es.toList L hl
 rw[hn] at hfd
 simp only[] at hfd
 refine⟨.map (es.push { key:=Q0 n k,val:=Qb r,born:=clock }) (clock+1),?_,(es.push { key:=Q0 n k,val:=Qb r,born:=clock }),clock+1,?_,?_⟩
 ·simp[Instr.mapUpdate,run_underlying Tryz.underlying174,MapKept.run_getObj_map hb,hck,hfd,Result.andThen,MapKept.run_setObj_map _ hb]
 ·have hlt:=zd hb
  show (w.heap.setIfInBounds tb _)[tb]? = _
  rw[Array.getElem?_setIfInBounds_self_of_lt hlt]
 ·rw[Array.toList_push,List.map_append,hl]
  simp[Yb]
end Go.Proofs.YtiganlkabilblaaGreatDoor
namespace Go.Proofs.YtiganlkabilblaaGreatDoor
open Thk
abbrev REv:=Nat→Nat→Option (Option Nat)
def Jb (F:REv):List Nat→Nat→Option (Option Nat)
 | [],k=>some (some k)
 | j::js,k=>match F j k with
  | none=>none
  | some none=>some none
  | some (some e)=>Jb F js e
def chR (F:REv):List Nat→Nat→Option (Option Nat)
 | [],_=>some none
 | j::js,k=>match F j k with
  | none=>none
  | some none=>chR F js k
  | some (some e)=>some (some e)
def Zf (F:REv) (j:Nat):Nat→Option Nat→Nat→Option (Option Nat)
 | 0,_,_=>none
 | _+1,none,k=>some (some k)
 | c+1,some e,_=>match F j e with
  | none=>none
  | some n=>Zf F j c n e
def Yh (inp:z7) (e:RE) (k:Nat):Option Nat:=
 if e.kind=3 then (if k<inp.length then some (k+1) else none)
 else if e.kind=2 then (match inp[k]? with | none=>none | some c=>if Q7 e.items c then some (k+1) else none)
 else if (e.items.map (·.1)).isPrefixOf (inp.drop k) then some (k+e.items.length) else none
def Jq (F:REv) (cnt:Nat) (e:RE) (k:Nat):Option (Option Nat):=
 match F (e.parts.headD 0) k with
 | none=>none
 | some n=>
  if e.kind=7 then some (some (n.getD k))
  else if e.kind=10 then some (if n.isSome then some k else none)
  else if e.kind=11 then some (if n.isSome then none else some k)
  else if e.kind=9∧n=none then some none
  else Zf F (e.parts.headD 0) cnt n k
def QH (names:List z7) (bodies:List Nat) (inp:z7) (F:REv) (cnt:Nat) (e:RE) (k:Nat):Option (Option Nat):=
 if e.kind≤3 then some (Yh inp e k)
 else if e.kind=4 then F (bodies.getD (idx0 names e.text) 0) k
 else if e.kind=5 then Jb F e.parts k
 else if e.kind=6 then chR F e.parts k
 else Jq F cnt e k
def okE (names:List z7) (e:RE):Bool:=decide (1≤e.kind) && decide (e.kind≤11) && decide (e.items.length≤20) && (e.kind != 4 || names.contains e.text)
def evR (xs:List RE) (names:List z7) (bodies:List Nat) (inp:z7):Nat→REv
 | 0,_,_=>none
 | f+1,i,k=>match xs[i]? with
  | none=>none
  | some e=>if okE names e then QH names bodies inp (evR xs names bodies inp f) f e k else none
def fin (r:Out):Option Nat:=r.map (·.1)
end Go.Proofs.YtiganlkabilblaaGreatDoor
namespace Go.Proofs.YtiganlkabilblaaGreatDoor
open Go.RowKit
attribute [local go_sem ↓] Go.wp_at_zero Go.wp_at_succ
abbrev zK (ps:List (Thk.RE × Value × Value)):List Thk.RE:=ps.map (·.1)
abbrev zj (rs:List (Thk.z7 × Nat)):List Thk.z7:=rs.map (·.1)
abbrev Zp (rs:List (Thk.z7 × Nat)):List Nat:=rs.map (·.2)
end Go.Proofs.YtiganlkabilblaaGreatDoor
namespace Thk
def znf (m:z7) (c:UInt8):z7:=if c=10 then [92,110] else if c=9 then [92,116] else if c=92∨m.contains c=true then [92,c] else [c]
def zng (m:z7) (s:zR):z7:=znf m s.1++(if s.2=s.1 then [] else 45::znf m s.2)
def znr (b:z7):z7:=39::(b.flatMap (znf [39])++[39])
def znv (l:List zR):z7:=91::(l.flatMap (zng [93,45])++[93])
def zne (b:UInt8):z7:=if b=0 then [] else [b]
mutual
def prP:zC→Bool→z7
  | .name b,_=>b
  | .lit b,_=>znr b
  | .cls l,_=>znv l
  | .any,_=>[46]
  | .group [[]],_=>[40,41]
  | .group [[.mk a p b]],sg=>if a=0∧b=0 then prP p sg else if sg then 40::(prT (.mk a p b)++[41]) else prT (.mk a p b)
  | .group c,_=>40::(prC c++[41])
def prT:Term→z7
  | .mk a p b=>zne a++(prP p (a != 0 || b != 0)++zne b)
def prS:List Term→z7
  | []=>[]
  | [t]=>prT t
  | t::s=>prT t++(32::prS s)
def znd:List Term→z7
  | []=>[40,41]
  | s=>prS s
def prC:List (List Term)→z7
  | []=>[]
  | [s]=>znd s
  | s::c=>znd s++([32,47,32]++prC c)
 end
end Thk
namespace Go.Proofs.YtiganlkabilblaaGreatDoor
open Go.RowKit
attribute [local go_sem ↓] Go.wp_at_zero Go.wp_at_succ
theorem zoF (c:UInt8) (w:World):(convert 117 9 (.slice (some ⟨w.heap.size,0,none⟩) 1 1)).run Tryz.prog (w.alloc (.cells #[.int .u8 c.toNat] 5)) = .ok (.string ⟨#[c]⟩) (w.alloc (.cells #[.int .u8 c.toNat] 5)):=by
 have h:=run_convert_bytes_back (P:=Tryz.prog) (w.alloc (.cells #[.int .u8 c.toNat] 5)) 117 9 5 ⟨w.heap.size,0,none⟩ 1 [c] Tryz.underlying117 Tryz.underlying5 Tryz.underlying9 (by
  intro j hj
  have e:j=0:=by simp at hj;omega
  subst e
  exact z8 (zk w _) 0)
 exact h
theorem q6 (ps:List Thk.zR) (i j:Nat) (hi:i<ps.length) (hj:j<2):(ps.flatMap ZO)[i * 2+j]? = (ZO ps[i])[j]? := by
 induction ps generalizing i with
 | nil=>simp at hi
 | cons p ps ih=>
  have hl:(ZO p).length=2:=rfl
  cases i with
  | zero=>
   simp only[List.flatMap_cons,Nat.zero_mul,Nat.zero_add,List.getElem_cons_zero]
   rw[List.getElem?_append_left (by omega)]
  | succ i=>
   simp only[List.flatMap_cons,List.getElem_cons_succ]
   rw[List.getElem?_append_right (by omega),hl,show (i+1) * 2+j - 2=i * 2+j from by omega]
   exact ih i (by simpa using hi)
theorem znw (m:Thk.z7) (c:UInt8):(Thk.znf m c).length≤2:=by
 unfold Thk.znf;repeat' split
 all_goals simp
theorem zqk (m:Thk.z7) (s:Thk.zR):(Thk.zng m s).length≤5:=by
 unfold Thk.zng
 have h1:=znw m s.1
 have h2:=znw m s.2
 split
 ·simp;omega
 ·simp;omega
theorem zpc (m:Thk.z7) (l:List Thk.zR):(l.flatMap (Thk.zng m)).length≤5 * l.length:=by
 induction l with
 | nil=>simp
 | cons s l ih=>have:=zqk m s;rw[List.flatMap_cons,List.length_append,List.length_cons];omega
theorem zpx (a b:Thk.z7):(ByteArray.mk a.toArray)++(ByteArray.mk b.toArray)=ByteArray.mk (a++b).toArray:=by
 apply ByteArray.ext
 simp
end Go.Proofs.YtiganlkabilblaaGreatDoor
namespace Thk
def zat (t:Tok):Prop:=t.text.length≤20∧t.spans.length≤20
def Small (ts:List Tok):Prop:=∀ t ∈ ts,zat t
mutual
def wtP:zC→Nat
  | .name b=>b.length
  | .lit b=>2+2 * b.length
  | .cls l=>2+5 * l.length
  | .any=>1
  | .group c=>2+wtC c
def wtT:Term→Nat
  | .mk _ p _=>2+wtP p
def wtS:List Term→Nat
  | []=>2
  | t::s=>1+wtT t+wtS s
def wtC:List (List Term)→Nat
  | []=>1000000
  | [s]=>3+wtS s
  | s::c=>3+wtS s+wtC c
 end
theorem zjF (s:List Term) (c:List (List Term)):wtC (s::c)≤3+wtS s+wtC c:=by
 cases c with
 | nil=>simp only[wtC];omega
 | cons s2 c=>simp only[wtC];omega
theorem Small.tail {ts:List Tok} (h:Small ts):Small ts.tail:=fun t ht=>h t (List.mem_of_mem_tail ht)
theorem Small.ahead {ts:List Tok} (h:Small ts):Small (Z9 ts).2:=by
 unfold Z9
 repeat' split
 all_goals first | exact h | exact h.tail
theorem Small.behind {ts:List Tok} (h:Small ts):Small (Zg ts).2:=by
 unfold Zg
 repeat' split
 all_goals first | exact h | exact h.tail
def WP1 (ts:List Tok) (r:Res zC):Prop:=Small ts→∀ p rest,r = .ok p rest→wtP p+200 * rest.length+50≤200 * ts.length∧Small rest
def WP2 (ts:List Tok) (r:Res Term):Prop:=Small ts→∀ p rest,r = .ok p rest→wtT p+200 * rest.length+40≤200 * ts.length∧Small rest
def WP3 (ts:List Tok) (r:Res Seq):Prop:=Small ts→∀ p rest,r = .ok p rest→wtS p+200 * rest.length≤200 * ts.length+2∧Small rest
def WP4 (ts:List Tok) (r:Res Z5):Prop:=Small ts→∀ p rest,r = .ok p rest→wtC p+200 * rest.length≤200 * ts.length+10∧Small rest
theorem za2 {ts:List Tok} {c:UInt8} (h:(hd ts).kind = .sign c) : 1≤ts.length:=by
 cases ts with
 | nil=>simp[hd,zB] at h
 | cons t ts=>simp
theorem zjB {ts:List Tok} {p:zC} (h:zU (hd ts)=some p):WP1 ts (.ok p ts.tail):=by
 intro hs p' rest e
 cases e
 cases ts with
 | nil=>simp[hd,zU,zB] at h
 | cons t ts=>
  have ht:=hs t (by simp)
  obtain⟨h1,h2⟩:=ht
  refine⟨?_,hs.tail⟩
  simp only[hd,List.headD_cons] at h
  unfold zU at h
  split at h
  ·cases h;simp[wtP];omega
  ·cases h;simp[wtP];omega
  ·cases h;simp[wtP];omega
  ·split at h
   ·cases h;simp[wtP];omega
   ·cases h
  ·cases h
theorem Z8.wt {d:Nat} {ts:List Tok} {c:Z5} {rest:List Tok} (h:Z8 d ts (.ok c rest)) (hs:Small ts):wtC c+200 * rest.length≤200 * ts.length+10∧Small rest:=by
 refine (Z8.rec (motive_1:=fun _ ts r _=>WP1 ts r) (motive_2:=fun _ ts r _=>WP2 ts r) (motive_3:=fun _ ts r _=>WP3 ts r) (motive_4:=fun _ ts r _=>WP4 ts r) ?_ ?_ ?_ ?_ ?_ ?_ ?_ ?_ ?_ ?_ ?_ ?_ ?_ ?_ ?_ ?_ h:WP4 ts (.ok c rest)) hs c rest rfl
 ·intro d ts p h;exact zjB h
 ·intro d ts h h' hs p rest e;cases e
 ·intro ts h hs p rest e;cases e
 ·intro d ts c rest h1 h2 h3 h4 ih hs p rest' e
  cases e
  obtain⟨i1,i2⟩:=ih hs.tail _ _ rfl
  have n1:=za2 h1
  have n2:=za2 h4
  refine⟨?_,i2.tail⟩
  simp only[wtP,List.length_tail] at i1 ⊢
  omega
 ·intros;intro hs p rest e;cases e
 ·intros;intro hs p rest e;cases e
 ·intro d ts p rest h ih hs t rest' e
  cases e
  obtain⟨i1,i2⟩:=ih hs.ahead _ _ rfl
  have h1:=zaW ts
  have h2:=zb3 rest
  refine⟨?_,i2.behind⟩
  simp only[wtT]
  omega
 ·intros;intro hs p rest e;cases e
 ·intro d ts h hs p rest e
  cases e
  refine⟨?_,hs⟩
  simp only[wtS]
  omega
 ·intro d ts t rest s rest' h1 h2 h3 ih1 ih2 hs p r e
  cases e
  obtain⟨i1,i2⟩:=ih1 hs _ _ rfl
  obtain⟨j1,j2⟩:=ih2 i2 _ _ rfl
  refine⟨?_,j2⟩
  simp only[wtS]
  omega
 ·intros;intro hs p rest e;cases e
 ·intros;intro hs p rest e;cases e
 ·intro d ts s rest h1 h2 ih hs p r e
  cases e
  obtain⟨i1,i2⟩:=ih hs _ _ rfl
  refine⟨?_,i2⟩
  simp only[wtC]
  omega
 ·intro d ts s rest c rest' h1 h2 h3 ih1 ih2 hs p r e
  cases e
  obtain⟨i1,i2⟩:=ih1 hs _ _ rfl
  obtain⟨j1,j2⟩:=ih2 i2.tail _ _ rfl
  have n1:=za2 h2
  refine⟨?_,j2⟩
  have hw:=zjF s c
  simp only[List.length_tail] at *
  omega
 ·intros;intro hs p rest e;cases e
 ·intros;intro hs p rest e;cases e
theorem zbl {l:z7} {n:Nat} {m:UInt8} {k:Nat} (h:ZX l n m k=true):k≤20:=by
 unfold ZX at h
 simp at h
 omega
theorem zjb (l:z7):zat (zM l):=by
 have hb:zat zB:=⟨by simp[zB],by simp[zB]⟩
 cases l with
 | nil=>exact⟨by simp[zM],by simp[zM]⟩
 | cons c t=>
  simp only[zM]
  split
  ·unfold Ql
   split
   ·exact hb
   ·refine⟨?_,by simp⟩
    rw[List.length_take];omega
  ·split
   ·exact⟨by simp,by simp⟩
   ·split
    ·unfold Qv
     split
     ·rename_i h;exact⟨zbl h,by simp⟩
     ·exact hb
    ·split
     ·unfold QB
      split
      ·rename_i h;exact⟨by simp,zbl h⟩
      ·exact hb
     ·split
      ·exact⟨by simp,by simp⟩
      ·exact hb
theorem zdd:∀ (f pos:Nat) (l:z7),Small (QC f pos l)
 | 0,_,_=>by intro t ht;simp[QC] at ht
 | f+1,pos,l=>by
  intro t ht
  simp only[QC,List.mem_cons] at ht
  rcases ht with rfl | ht
  ·exact zjb _
  ·split at ht
   ·simp at ht
   ·exact zdd f _ _ t ht
theorem ZV.wt {n:Nat} {ts:List Tok} {r:ze} {rest:List Tok} (h:ZV n ts (.ok r rest)) (hs:Small ts):wtC r.choice≤200 * ts.length+10∧r.name.length≤20∧rest.length≤ts.length∧Small rest:=by
 cases h with
 | ok hk _ _ hc=>
  obtain⟨i1,i2⟩:=hc.wt hs.tail.tail
  have hn:=hc.nc
  simp only[List.length_tail] at i1 hn
  refine⟨by simp only[];omega,?_,by omega,i2⟩
  cases ts with
  | nil=>simp[hd,zB]
  | cons t ts=>simp only[hd,List.headD_cons];exact (hs t (by simp)).1
theorem ZU.wt {n:Nat} {ts:List Tok} {g:List ze} (h:ZU n ts (.ok g)) (hs:Small ts):∀ r ∈ g,wtC r.choice≤200 * ts.length+10∧r.name.length≤20:=by
 generalize hres:(Except.ok g:Except (Nat × Nat) (List ze))=res at h
 induction h generalizing g with
 | last hr hk=>
  cases hres
  intro r hr'
  simp only[List.mem_singleton] at hr'
  subst hr'
  have:=hr.wt hs
  exact⟨this.1,this.2.1⟩
 | more hr hk _ ih=>
  cases hres
  intro r hr'
  have h1:=hr.wt hs
  rcases List.mem_cons.1 hr' with rfl | hr'
  ·exact⟨h1.1,h1.2.1⟩
  ·have:=ih h1.2.2.2 rfl r hr'
   omega
 | err hr=>cases hres
 | later _ _ _ _=>cases hres
theorem zf6 {l:z7} {g:List ze} (h:ZU 0 (Qn l) (.ok g)) (hl:l.length≤2000):∀ r ∈ g,wtC r.choice≤500000∧r.name.length≤20:=by
 intro r hr
 have h1:=h.wt (zdd _ _ _) r hr
 have h2:=zdf l
 omega
end Thk
namespace Thk
open Go.Proofs.YtiganlkabilblaaGreatDoor
theorem zo4 (b:UInt8):(zne b).length≤1:=by unfold zne;split<;>simp
theorem zpM (b:z7):(znr b).length≤2+2 * b.length:=by
 unfold znr
 have h:(b.flatMap (znf [39])).length≤2 * b.length:=by
  induction b with
  | nil=>simp
  | cons c b ih=>have:=znw [39] c;rw[List.flatMap_cons,List.length_append,List.length_cons];omega
 rw[List.length_cons,List.length_append,List.length_singleton];omega
theorem zpE (l:List zR):(znv l).length≤2+5 * l.length:=by
 unfold znv
 have h:=zpc [93,45] l
 rw[List.length_cons,List.length_append,List.length_singleton];omega
theorem znQ (c:List (List Term)) (sg:Bool) (h:∀ a p b,c≠[[.mk a p b]]) (h0:c≠[[]]):prP (.group c) sg=40::(prC c++[41]):=by
 rw[prP.eq_def]
 split
 ·rename_i e;cases e
 ·rename_i e;cases e
 ·rename_i e;cases e
 ·rename_i e;cases e
 ·rename_i e;cases e;exact absurd rfl h0
 ·rename_i e;cases e;exact absurd rfl (h _ _ _)
 ·rename_i e;cases e;rfl
mutual
theorem zom:∀ (p:zC) (sg:Bool),(prP p sg).length≤wtP p
  | .name b,sg=>by simp[prP,wtP]
  | .lit b,sg=>by simp only[prP,wtP];exact zpM b
  | .cls l,sg=>by simp only[prP,wtP];exact zpE l
  | .any,sg=>by simp[prP,wtP]
  | .group [[.mk a p b]],sg=>by
    have h1:=zo1 (.mk a p b)
    have h2:=zom p sg
    simp only[prP,wtP,wtC,wtS,wtT] at *
    split
    · omega
    · split
      · rw[List.length_cons,List.length_append,List.length_singleton];omega
      · omega
  | .group [],sg=>by rw[znQ _ _ (by simp) (by simp)];simp[prC,wtP,wtC]
  | .group [[]],sg=>by simp[prP,wtP,wtC,wtS]
  | .group ([]::s2::c),sg=>by
    have:=znJ ([]::s2::c)
    rw[znQ _ _ (by simp) (by simp),List.length_cons,List.length_append,List.length_singleton]
    simp only[wtP];omega
  | .group ((t::t2::s)::c),sg=>by
    have:=znJ ((t::t2::s)::c)
    rw[znQ _ _ (by simp) (by simp),List.length_cons,List.length_append,List.length_singleton]
    simp only[wtP];omega
  | .group ([t]::s2::c),sg=>by
    have:=znJ ([t]::s2::c)
    rw[znQ _ _ (by simp) (by simp),List.length_cons,List.length_append,List.length_singleton]
    simp only[wtP];omega
theorem zo1:∀ (t:Term),(prT t).length≤wtT t
  | .mk a p b=>by
    have h1:=zom p (a != 0 || b != 0)
    have h2:=zo4 a
    have h3:=zo4 b
    simp only[prT,wtT,List.length_append]
    omega
theorem zo0:∀ (s:List Term),(prS s).length≤wtS s
  | []=>by simp[prS]
  | [t]=>by
    have:=zo1 t
    simp only[prS,wtS];omega
  | t::t2::s=>by
    have h1:=zo1 t
    have h2:=zo0 (t2::s)
    simp only[prS,wtS,List.length_append,List.length_cons] at *
    omega
theorem znJ:∀ (c:List (List Term)),(prC c).length≤wtC c
  | []=>by simp[prC]
  | [s]=>by
    have h1:=zo0 s
    cases s with
    | nil=>simp[prC,znd,wtC,wtS]
    | cons t s=>simp only[prC,znd,wtC] at *;omega
  | s::s2::c=>by
    have h1:=zo0 s
    have h2:=znJ (s2::c)
    have h3:(znd s).length≤wtS s:=by
      cases s with
      | nil=>simp[znd,wtS]
      | cons t s=>simp only[znd];exact h1
    simp only[prC,wtC,List.length_append,List.length_cons,List.length_nil] at *
    omega
 end
end Thk
namespace Go.Proofs.YtiganlkabilblaaGreatDoor
open Go.RowKit Thk
def zF:Option Nat→Int
 | none=>-1
 | some e=>e
abbrev Tab:=Nat→Nat→Int
def JB (n:Nat) (f:Nat→Int):List Int:=(List.range n).map f
def KM (l:List Int):Obj:=.cells (l.map (Value.int .i64)).toArray 3 (0,0)
theorem zi1 (n:Nat) (f:Nat→Int) (t:Nat) (u:Int):(JB n f).set t u=JB n (fun j=>if j=t then u else f j):=by
 apply List.ext_getElem
 ·simp[JB]
 ·intro i h1 h2
  simp only[JB,List.getElem_set,List.getElem_map,List.getElem_range]
  by_cases e:t=i
  ·subst e;simp
  ·have:¬ i=t:=fun h=>e h.symm
   simp[e,this]
theorem KpM.of_below {rbs:List Nat} {w w':World} (h:Below w.heap.size w w'):KpM rbs w.heap.size w w':=⟨h.os,h.tape,h.output,h.size,fun k hk _=>h.block k hk⟩
theorem KpM.mono {rbs:List Nat} {B B':Nat} {w w':World} (h:KpM rbs B w w') (hb:B'≤B):KpM rbs B' w w':=⟨h.os,h.tape,h.output,h.size,fun k hk hr=>h.block k (by omega) hr⟩
theorem KpM.go {rbs:List Nat} {w w1 w2:World} (h:KpM rbs w.heap.size w w1) (k:KpM rbs w1.heap.size w1 w2):KpM rbs w.heap.size w w2:=h.trans (k.mono h.size)
structure Y1 (w0 w:World) (tb eb ec:Nat) (vx vr:Value) (s:ByteArray) (rbs:List Nat) (M:Tab):Prop where
 size:w0.heap.size≤w.heap.size
 old:∀ b,b<w0.heap.size→w.heap[b]? = w0.heap[b]?
 blk:w.heap[tb]? = some (.cells #[vx,vr,.string s,.slice (some ⟨eb,0,none⟩) rbs.length ec] 161 (0,0))
 elt:eb<w.heap.size
 ends:∀ i (h:i<rbs.length),w.cell? ⟨eb,i,none⟩=some (.slice (some ⟨rbs[i],0,none⟩) (s.size+1) (s.size+1))
 row:∀ i (h:i<rbs.length),w.heap[rbs[i]]? = some (KM (JB (s.size+1) (M i)))
 nodup:rbs.Nodup
 rge:∀ b ∈ rbs,w0.heap.size≤b
 tn:tb ∉ rbs
 en:eb ∉ rbs
theorem Y1.kept {w0 w w':World} {tb eb ec:Nat} {vx vr:Value} {s:ByteArray} {rbs:List Nat} {M:Tab} (h:Y1 w0 w tb eb ec vx vr s rbs M) (hb:Below w.heap.size w w'):Y1 w0 w' tb eb ec vx vr s rbs M:=by
 have hs:=h.size
 have hz:=hb.size
 refine⟨by omega,fun b hb'=>by rw[hb.block b (by omega)];exact h.old b hb',by rw[hb.block _ (zd h.blk)];exact h.blk,by have:=h.elt;omega,fun i hi=>?_,fun i hi=>?_,h.nodup,h.rge,h.tn,h.en⟩
 ·rw[hb.cell (p:=⟨eb,i,none⟩) h.elt];exact h.ends i hi
 ·rw[hb.block _ (zd (h.row i hi))];exact h.row i hi
theorem Y1.at {w0 w:World} {tb eb ec:Nat} {vx vr:Value} {s:ByteArray} {rbs:List Nat} {M:Tab} (h:Y1 w0 w tb eb ec vx vr s rbs M) (i k:Nat) (hi:i<rbs.length) (hk:k≤s.size):w.cell? ⟨rbs[i],k,none⟩=some (.int .i64 (M i k)):=by
 rw[z8 (h.row i hi)]
 have:k<s.size+1:=by omega
 simp[JB,this]
theorem zft (l:List Int) (t:Nat) (u:Int):(Obj.cells ((l.map (Value.int .i64)).toArray.setIfInBounds t (.int .i64 u)) 3 (0,0))=KM (l.set t u):=by
 unfold KM
 simp[List.map_set]
theorem Y1.set {w0 w:World} {tb eb ec:Nat} {vx vr:Value} {s:ByteArray} {rbs:List Nat} {M:Tab} (h:Y1 w0 w tb eb ec vx vr s rbs M) (f t:Nat) (hf:f<rbs.length) (u:Int):Y1 w0 (w.setCell ⟨rbs[f],t,none⟩ (.int .i64 u)) tb eb ec vx vr s rbs (fun i j=>if i=f∧j=t then u else M i j):=by
 have hmem:rbs[f] ∈ rbs:=List.getElem_mem hf
 have hne:∀ b,b ∉ rbs→(w.setCell ⟨rbs[f],t,none⟩ (.int .i64 u)).heap[b]? = w.heap[b]? := fun b hb=>Below.heap_setCell _ _ _ _ (fun e=>hb (e ▸ hmem))
 refine⟨by simpa [World.setCell] using h.size,fun b hb=>?_,by rw[hne _ h.tn];exact h.blk,by simpa [World.setCell] using h.elt,fun i hi=>?_,fun i hi=>?_,h.nodup,h.rge,h.tn,h.en⟩
 ·rw[hne b (fun hb'=>by have:=h.rge b hb';omega)];exact h.old b hb
 ·rw[World.cell?_of_block (a:=⟨eb,i,none⟩) (hne eb h.en)];exact h.ends i hi
 ·by_cases e:i=f
  ·subst e
   rw[zo (h.row i hi)]
   show some _=_
   have:=zft (JB (s.size+1) (M i)) t u
   rw[zi1] at this
   rw[show (fun j=>if i=i∧j=t then u else M i j)=(fun j=>if j=t then u else M i j) from by funext j;simp]
   rw[← this]
  ·have hne2:rbs[i]≠rbs[f]:=fun e2=>e ((List.getElem_inj h.nodup).1 e2)
   rw[Below.heap_setCell _ _ _ _ hne2,h.row i hi]
   congr 3
   funext j
   simp[e]
def Snd (xs:List RE) (names:List z7) (bodies:List Nat) (inp:z7) (M:Tab):Prop:=∀ i k,k≤inp.length→M i k = -2∨∃ f v,evR xs names bodies inp f i k=some v∧M i k=zF v
theorem Snd.set {xs:List RE} {names:List z7} {bodies:List Nat} {inp:z7} {M:Tab} (h:Snd xs names bodies inp M) {f i k:Nat} {v:Option Nat} (hv:evR xs names bodies inp f i k=some v):Snd xs names bodies inp (fun a b=>if a=i∧b=k then zF v else M a b):=by
 intro a b hb
 by_cases e:a=i∧b=k
 ·obtain⟨rfl,rfl⟩:=e
  exact .inr ⟨f,v,hv,by simp⟩
 ·simp only[if_neg e];exact h a b hb
end Go.Proofs.YtiganlkabilblaaGreatDoor
namespace Go.Proofs.YtiganlkabilblaaGreatDoor
open Go.RowKit Thk
attribute [local go_sem ↓] Go.wp_at_zero Go.wp_at_succ
theorem zfz (a b:Nt) (w:World):Calls Tryz.prog 203 #[ntV a,ntV b] w fun e w'=>e = .returned (ntV (jn a b))∧w'=w:=by
 cases a with
 | nil=>
  simp only[ntV,jn]
  generalize ntV b=v
  go_enter Tryz.func203,Tryz.ntmps203
  go_wp2_with fail
  go_ret
  exact⟨rfl,rfl⟩
 | use i x y m=>
  cases b with
  | nil=>
   simp only[ntV,jn]
   go_enter Tryz.func203,Tryz.ntmps203
   go_wp2_with fail
   go_ret
   exact⟨rfl,rfl⟩
  | use i2 x2 y2 m2=>
   simp only[ntV,jn]
   go_enter Tryz.func203,Tryz.ntmps203
   go_wp2_with fail
   go_ret
   exact⟨rfl,rfl⟩
  | pair p q=>
   simp only[ntV,jn]
   go_enter Tryz.func203,Tryz.ntmps203
   go_wp2_with fail
   go_ret
   exact⟨rfl,rfl⟩
 | pair p q=>
  cases b with
  | nil=>
   simp only[ntV,jn]
   go_enter Tryz.func203,Tryz.ntmps203
   go_wp2_with fail
   go_ret
   exact⟨rfl,rfl⟩
  | use i2 x2 y2 m2=>
   simp only[ntV,jn]
   go_enter Tryz.func203,Tryz.ntmps203
   go_wp2_with fail
   go_ret
   exact⟨rfl,rfl⟩
  | pair p2 q2=>
   simp only[ntV,jn]
   go_enter Tryz.func203,Tryz.ntmps203
   go_wp2_with fail
   go_ret
   exact⟨rfl,rfl⟩
theorem QV (a:Nt):ntV a = .nilIface∨∃ t x,ntV a = .iface t x:=by
 cases a with
 | nil=>exact .inl rfl
 | use i x y m=>exact .inr ⟨_,_,rfl⟩
 | pair p q=>exact .inr ⟨_,_,rfl⟩
abbrev Zz (vr:Value) (s:ByteArray) (tv:Value) (nt:Value):Obj:=.cells #[vr,.string s,tv,nt] 177 (0,0)
theorem KQ (w:World) (mb:Nat) (vr:Value) (s:ByteArray) (tv:Value) (a b:Nt) (h:w.heap[mb]? = some (Zz vr s tv (ntV a))) :
  Calls Tryz.prog 192 #[.pointer (some ⟨mb,0,none⟩),ntV b] w fun e w'=>e = .returned (.tuple #[])∧w'=w.setCell ⟨mb,3,none⟩ (ntV (jn a b)):=by
 have q:w.cell? ⟨mb,3,none⟩=some (ntV a):=z8 h 3
 have fz:=zi h 3
 have hl:=zd h
 have hj:=zfz a b w
 have HJ:=z6 hj
 have hf:=QV (jn a b)
 generalize ntV b=vb at *
 generalize ntV (jn a b)=vj at *
 generalize ntV a=va at *
 clear h hj
 rcases hf with rfl | ⟨t,x,rfl⟩
 all_goals
  go_enter Tryz.func192,Tryz.ntmps192
  go_wp2_with fail
  refine HJ.out.mono ?_
  rintro _ w1 ⟨rfl,hw⟩
  replace hw:=hw.symm
  subst hw
  go_wp2_with fail
  go_end0
  exact⟨rfl,rfl⟩
theorem zj3 (w:World) (mb:Nat) (vr:Value) (s:ByteArray) (tv a:Value) (b:Nt) (h:w.heap[mb]? = some (Zz vr s tv a)) :
  Calls Tryz.prog 152 #[.pointer (some ⟨mb,0,none⟩),ntV b] w fun e w'=>e = .returned (.tuple #[])∧w'=w.setCell ⟨mb,3,none⟩ (ntV b):=by
 have q:w.cell? ⟨mb,3,none⟩=some a:=z8 h 3
 have fz:=zi h 3
 have hl:=zd h
 have hf:=QV b
 generalize ntV b=vb at *
 clear h
 rcases hf with rfl | ⟨t,x,rfl⟩
 all_goals
  go_enter Tryz.func152,Tryz.ntmps152
  go_wp2_with fail
  go_end0
  exact⟨rfl,rfl⟩
theorem V0 (w:World) (mb:Nat) (u:FrameMode) (vr:Value) (s:ByteArray) (tv a:Value) (b:Nt) (h:w.heap[mb]? = some (Zz vr s tv a)) :
  CallsD Tryz.prog 152 #[.pointer (some ⟨mb,0,none⟩),ntV b] u w fun e u' w'=>u'=u∧(e = .returned (.tuple #[])∧w'=w.setCell ⟨mb,3,none⟩ (ntV b)):=by
 have q:w.cell? ⟨mb,3,none⟩=some a:=z8 h 3
 have fz:=zi h 3
 have hl:=zd h
 have hf:=QV b
 generalize ntV b=vb at *
 clear h
 rcases hf with rfl | ⟨t,x,rfl⟩
 all_goals
  go_enter_d Tryz.func152,Tryz.ntmps152
  go_wp2
  go_end0
  exact⟨rfl,rfl⟩
abbrev z9 (b:Nat):Value:=.pointer (some ⟨b,0,none⟩)
abbrev zT (x:Nat × Nat × Nat):Value:=.func (.func 177) #[] #[z9 x.1,z9 x.2.1,z9 x.2.2]
def clV (bx:List (Nat × Nat × Nat)) (n:Nat):Value:=zT (bx.getD n (0,0,0))
abbrev zh (v:Value) (t:TypeId):Obj:=.cells #[v] t (0,0)
def Yu (w:World) (mb:Nat) (bx:List (Nat × Nat × Nat)) (ks:List Nat) (a:Option Addr):Prop:=∀ j (h:j<ks.length),∃ g,a=some ⟨g,0,none⟩∧g<w.heap.size∧g≠mb∧w.cell? ⟨g,j,none⟩=some (clV bx ks[j])
def Inn (w:World) (mb:Nat) (bx:List (Nat × Nat × Nat)) (n:Nat) (iv:Value):Nd→Prop
 | .choice ks=>∃ bs a c,iv = .func (.func 151) #[] #[z9 bs]∧w.heap[bs]? = some (zh (.slice a ks.length c) 175)∧Yu w mb bx ks a∧ks.length≤1000000
 | .seq ks=>∃ bm bs a c,iv = .func (.func 175) #[] #[z9 bm,z9 bs]∧w.heap[bm]? = some (zh (z9 mb) 113)∧w.heap[bs]? = some (zh (.slice a ks.length c) 175)∧Yu w mb bx ks a∧ks.length≤1000000
 | .ahead k wd=>∃ bm be bw,iv = .func (.func 202) #[] #[z9 bm,z9 be,z9 bw]∧w.heap[bm]? = some (zh (z9 mb) 113)∧w.heap[be]? = some (zh (clV bx k) 226)∧w.heap[bw]? = some (zh (.bool wd) 4)
 | .maybe k=>∃ be,iv = .func (.func 212) #[] #[z9 be]∧w.heap[be]? = some (zh (clV bx k) 226)
 | .plus k=>∃ be bp,iv = .func (.func 213) #[] #[z9 be,z9 bp]∧w.heap[be]? = some (zh (clV bx k) 226)∧w.heap[bp]? = some (zh (clV bx n) 226)
 | .name i=>∃ bm bi,iv = .func (.func 215) #[] #[z9 bm,z9 bi]∧w.heap[bm]? = some (zh (z9 mb) 113)∧w.heap[bi]? = some (zh (.int .i64 i) 3)
 | .lit b=>∃ bm bt,iv = .func (.func 216) #[] #[z9 bm,z9 bt]∧w.heap[bm]? = some (zh (z9 mb) 113)∧w.heap[bt]? = some (zh (.string ⟨b.toArray⟩) 9)∧b.length≤20
 | .cls l=>∃ bm bh bs u,iv = .func (.func 220) #[] #[z9 bm,z9 bh]∧w.heap[bm]? = some (zh (z9 mb) 113)∧w.heap[bh]? = some (zh (.func (.func 217) #[] #[z9 bs]) 287)∧w.heap[bs]? = some (zh u 235)∧Qr w 0 u l∧l.length≤20
 | .any=>∃ bm bh,iv = .func (.func 220) #[] #[z9 bm,z9 bh]∧w.heap[bm]? = some (zh (z9 mb) 113)∧w.heap[bh]? = some (zh (.func (.func 211) #[] #[]) 287)
structure Mde (wM:World) (mb:Nat) (N:List Nd) (bx:List (Nat × Nat × Nat)) (rules:List Nat) (vr:Value):Prop where
 clo:∀ n d,N[n]? = some d→∃ iv,wM.heap[(bx.getD n (0,0,0)).1]? = some (zh (z9 mb) 113)∧wM.heap[(bx.getD n (0,0,0)).2.1]? = some (zh (.int .i64 n) 3)∧wM.heap[(bx.getD n (0,0,0)).2.2]? = some (zh iv 226)∧Inn wM mb bx n iv d
 rul:∃ rb rc,vr = .slice (some ⟨rb,0,none⟩) rules.length rc∧rb<wM.heap.size∧rb≠mb∧∀ i (h:i<rules.length),wM.cell? ⟨rb,i,none⟩=some (clV bx rules[i])
 mat:∃ sv tv nv,wM.heap[mb]? = some (.cells #[vr,sv,tv,nv] 177 (0,0))
structure MS (wM:World) (mb tb:Nat) (N:List Nd) (rules:List Nat) (vr:Value) (s:ByteArray) (nt:Nt) (w:World):Prop where
 size:wM.heap.size≤w.heap.size
 old:∀ b,b<wM.heap.size→b≠mb→w.heap[b]? = wM.heap[b]?
 mlt:mb<wM.heap.size
 blk:w.heap[mb]? = some (Zz vr s (.map (some tb)) (ntV nt))
 tge:wM.heap.size≤tb
 memo:∃ L,Qz w tb L∧∀ n k r,ZK L n k=some r→∃ f,evN N rules s.data.toList f n k=some r
theorem Qz.lt {w:World} {tb:Nat} {L:J3} (h:Qz w tb L):tb<w.heap.size:=by
 obtain⟨es,cl,hb,_⟩:=h
 exact zd hb
theorem Qz.same {w w':World} {tb:Nat} {L:J3} (h:Qz w tb L) (hb:w'.heap[tb]? = w.heap[tb]?):Qz w' tb L:=by
 obtain⟨es,cl,h1,h2⟩:=h
 exact⟨es,cl,by rw[hb];exact h1,h2⟩
theorem MS.below {wM:World} {mb tb:Nat} {N:List Nd} {rules:List Nat} {vr:Value} {s:ByteArray} {nt:Nt} {w w':World} (h:MS wM mb tb N rules vr s nt w) (hb:Below w.heap.size w w'):MS wM mb tb N rules vr s nt w':=by
 have h1:=h.size
 have h2:=hb.size
 have h3:=h.mlt
 obtain⟨L,hL,hS⟩:=h.memo
 exact⟨by omega,fun b hb1 hb2=>(hb.block b (by omega)).trans (h.old b hb1 hb2),h.mlt,by rw[hb.block _ (by omega)];exact h.blk,h.tge,L,hL.same (hb.block _ hL.lt),hS⟩
theorem MS.noted {wM:World} {mb tb:Nat} {N:List Nd} {rules:List Nat} {vr:Value} {s:ByteArray} {nt:Nt} {w:World} (h:MS wM mb tb N rules vr s nt w) (nt':Nt):MS wM mb tb N rules vr s nt' (w.setCell ⟨mb,3,none⟩ (ntV nt')):=by
 obtain⟨L,hL,hS⟩:=h.memo
 have hne:tb≠mb:=by have:=h.mlt;have:=h.tge;omega
 refine⟨by simpa [World.setCell] using h.size,fun b hb1 hb2=>?_,h.mlt,?_,h.tge,L,hL.same (Below.heap_setCell _ _ _ _ hne),hS⟩
 ·rw[Below.heap_setCell _ _ _ _ hb2];exact h.old b hb1 hb2
 ·rw[zo h.blk];rfl
theorem MS.low {wM:World} {mb tb:Nat} {N:List Nd} {rules:List Nat} {vr:Value} {s:ByteArray} {nt:Nt} {B:Nat} {w w':World} (h:MS wM mb tb N rules vr s nt w) (hB:wM.heap.size≤B) (ht:tb<B) (hb:Below B w w'):MS wM mb tb N rules vr s nt w':=by
 have h1:=h.size
 have h2:=hb.size
 have h3:=h.mlt
 obtain⟨L,hL,hS⟩:=h.memo
 exact⟨by omega,fun b hb1 hb2=>(hb.block b (by omega)).trans (h.old b hb1 hb2),h.mlt,by rw[hb.block _ (by omega)];exact h.blk,h.tge,L,hL.same (hb.block _ ht),hS⟩
theorem MS.tlt {wM:World} {mb tb:Nat} {N:List Nd} {rules:List Nat} {vr:Value} {s:ByteArray} {nt:Nt} {w:World} (h:MS wM mb tb N rules vr s nt w):tb<w.heap.size:=by
 obtain⟨L,hL,_⟩:=h.memo
 exact hL.lt
theorem KpM.low {rbs:List Nat} {B:Nat} {a w w':World} (h:KpM rbs B a w) (hb:Below B w w'):KpM rbs B a w':=⟨hb.os.trans h.os,hb.tape.trans h.tape,hb.output.trans h.output,Nat.le_trans h.size hb.size,fun k hk hr=>(hb.block k hk).trans (h.block k hk hr)⟩
theorem KpM.noted {mb tb:Nat} {B:Nat} {a w:World} (h:KpM [mb,tb] B a w) (u:Value):KpM [mb,tb] B a (w.setCell ⟨mb,3,none⟩ u):=h.set (by simp) u
end Go.Proofs.YtiganlkabilblaaGreatDoor
