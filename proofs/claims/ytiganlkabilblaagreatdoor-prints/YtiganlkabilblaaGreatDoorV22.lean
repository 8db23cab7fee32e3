import Derived.Test.YtiganlkabilblaaGreatDoorV21
set_option linter.all false
set_option maxHeartbeats 64000000
set_option maxRecDepth 100000
namespace Go.Proofs.YtiganlkabilblaaGreatDoor
open Tryz
open Tryz renaming prog->P
open Option renaming some->S,none->N
open Value renaming int->I
open IntKind renaming i64->J
section
open Go.RowKit
attribute [local go_sem ↓] Go.wp_at_zero Go.wp_at_succ
theorem zeb(s:ByteArray)(ok:UInt8->Bool):Qj s.data.toList s.size ok=N:=by unfold Qj;rw[List.getElem?_eq_none (by show s.data.toList.length<=s.size;exact Nat.le_refl _)]
theorem zea(s:ByteArray)(ok:UInt8->Bool)(k:Nat)(h:k<s.size):Qj s.data.toList k ok=if ok s[k]then S (k+1,.nil)else N:=by unfold Qj;have a:k<s.data.toList.length:=h;rw[List.getElem?_eq_getElem a];simp;rfl
theorem zbG{n:World}{m H:Nat}{v:List Nd}{K:List (Nat×Nat×Nat)}{rules:List Nat}{z:Value}{s:ByteArray}(M:Mde n m v K rules z)(E D g:Nat)(q:Array Value)(ok:UInt8->Bool)(G:n.heap[E]?=S (zh (z9 m) 113))(F:n.heap[D]?=S (zh (.func (.func g) #[] q) 287))(a0:s.size<=1000000)(k:Nat)(Z:k<=s.size)(w:World)(h:MS n m H v rules z s .nil w)(R:∀(B:Array Value) (w:World),(callFunc g B).run P w=.ok (.enter g B) w)(hF:∀W c,Below w.heap.size w W->Calls P g (#[I .u8 (UInt8.toNat c)]++q) W λe b=>e=.returned (.bool (ok c))/\Below W.heap.size W b):Calls P 220 #[I J k,z9 E,z9 D] w (Ye n m H v rules z s .nil (Qj s.data.toList k ok) w):=by
 have x:=h.box M G;have q1:=z8 x;have l1:=za x;have y:=h.box M F;have q2:=z8 y;have l2:=za y;have q3:w.cell? ⟨m,1,N⟩=S (.string s):=z8 h.blk 1;have l3:=zd h.blk;have p:=z6 (And.intro h.size (And.intro h.tlt h.mlt));have u:=z6 h;clear h G F M x y;by_cases V:k<s.size
 ·rw[zea s ok k V];have O:((k:Int)==(s.size:Int))=false:=by rw[beq_eq_false_iff_ne];omega
  have o:=z6 hF;clear hF;cases r:ok s[k]with
  |true=>
   have t:Hid (∀W,Below w.heap.size w W->W.heap[w.heap.size]?=S ZR->Calls P g (#[I .u8 (UInt8.toNat s[k])]++q) W λe b=>e=.returned (.bool true)/\Hid (Below w.heap.size w b/\b.heap[w.heap.size]?=S ZR)):=z6 (λW d f=>by refine(o.out W s[k] d).mono ?_;rintro e b⟨i,j⟩;rw[r]at i;exact⟨i,z6 ⟨d.trans (j.mono d.size),by rw[j.block _ (zd f)];exact f⟩⟩)
   simp only[if_true];clear r o;go_enter func220,ntmps220;go_wp2_with fail;go_region_with(refine(t.out _ (by repeat(first|exact Below.refl _ _|refine Below.drew ?_|refine Below.alloc ?_ (by simp) _)) (by exact zk w _)).mono ?_;rintro _ A⟨rfl,a⟩);all_goals have Y:=z8 a.out.2;have L:=zi a.out.2;have X:=za a.out.2;go_wp2_with fail;refine bodyPost_ret (results_cell_row rfl _ _ w.heap.size _ _ _ _ rfl (Jw a.out.2 _ _) underlying229 rfl (by kernel_rfl)) rfl ?_;have l:=QT A w.heap.size;exact⟨rfl,u.out.low p.out.1 p.out.2.1 (a.out.1.trans (l _ _)),KpM.of_below (a.out.1.trans (l _ _))⟩
  |false=>
   have t:Hid (∀W,Below w.heap.size w W->W.heap[w.heap.size]?=S ZR->Calls P g (#[I .u8 (UInt8.toNat s[k])]++q) W λe b=>e=.returned (.bool false)/\Hid (Below w.heap.size w b/\b.heap[w.heap.size]?=S ZR)):=z6 (λW d f=>by refine(o.out W s[k] d).mono ?_;rintro e b⟨i,j⟩;rw[r]at i;exact⟨i,z6 ⟨d.trans (j.mono d.size),by rw[j.block _ (zd f)];exact f⟩⟩)
   simp only[Bool.false_eq_true,if_false];clear r o;go_enter func220,ntmps220;go_wp2_with fail;go_region_with(refine(t.out _ (by repeat(first|exact Below.refl _ _|refine Below.drew ?_|refine Below.alloc ?_ (by simp) _)) (by exact zk w _)).mono ?_;rintro _ A⟨rfl,a⟩);all_goals have Y:=z8 a.out.2;have L:=zi a.out.2;have X:=za a.out.2;go_wp2_with fail;refine bodyPost_ret (results_cell_row rfl _ _ w.heap.size _ _ _ _ rfl (Jw a.out.2 _ _) underlying229 rfl (by kernel_rfl)) rfl ?_;have l:=QT A w.heap.size;exact⟨rfl,u.out.low p.out.1 p.out.2.1 (a.out.1.trans (l _ _)),KpM.of_below (a.out.1.trans (l _ _))⟩
 ·have U:k=s.size:=by omega
  subst U;rw[zeb];have O:((s.size:Int)==(s.size:Int))=true:=by simp
  clear hF R;go_enter func220,ntmps220;go_wp2_with fail;go_region;all_goals go_wp2_with fail;refine bodyPost_ret (results_cell_row rfl _ _ w.heap.size _ _ _ _ rfl (zk w _) underlying229 rfl (by kernel_rfl)) rfl ?_;exact⟨by simp[zN],u.out.below (zc w _).drew,KpM.of_below (zc w _).drew⟩
end
end Go.Proofs.YtiganlkabilblaaGreatDoor
