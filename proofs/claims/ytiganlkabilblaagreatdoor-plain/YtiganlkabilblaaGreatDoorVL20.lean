import Derived.Test.YtiganlkabilblaaGreatDoorVL19
set_option linter.all false
set_option maxHeartbeats 64000000
set_option maxRecDepth 100000
namespace Go.Proofs.YtiganlkabilblaaGreatDoor
open Go.RowKit Thk
attribute [local go_sem ↓] Go.wp_at_zero Go.wp_at_succ
theorem zeb (s:ByteArray) (ok:UInt8→Bool):Qj s.data.toList s.size ok=none:=by
 unfold Qj
 rw[List.getElem?_eq_none (by show s.data.toList.length≤s.size;exact Nat.le_refl _)]
theorem zea (s:ByteArray) (ok:UInt8→Bool) (k:Nat) (h:k<s.size):Qj s.data.toList k ok=if ok s[k] then some (k+1,.nil) else none:=by
 unfold Qj
 have h':k<s.data.toList.length:=h
 rw[List.getElem?_eq_getElem h']
 simp
 rfl
theorem zbG {wM:World} {mb tb:Nat} {N:List Nd} {bx:List (Nat × Nat × Nat)} {rules:List Nat} {vr:Value} {s:ByteArray} (M:Mde wM mb N bx rules vr) (bm bh g:Nat) (caps:Array Value) (ok:UInt8→Bool) (hbm:wM.heap[bm]? = some (zh (z9 mb) 113)) (hbh:wM.heap[bh]? = some (zh (.func (.func g) #[] caps) 287)) (hsz:s.size≤1000000) (k:Nat) (hk:k≤s.size) (w:World) (h:MS wM mb tb N rules vr s .nil w)
  (hen:∀ (args:Array Value) (w:World),(callFunc g args).run Tryz.prog w = .ok (.enter g args) w)
  (hF:∀ W c,Below w.heap.size w W→Calls Tryz.prog g (#[.int .u8 (UInt8.toNat c)]++caps) W fun e w'=>e = .returned (.bool (ok c))∧Below W.heap.size W w') :
  Calls Tryz.prog 220 #[.int .i64 k,z9 bm,z9 bh] w (Ye wM mb tb N rules vr s .nil (Qj s.data.toList k ok) w):=by
 have p1:=h.box M hbm
 have q1:=z8 p1
 have l1:=za p1
 have p2:=h.box M hbh
 have q2:=z8 p2
 have l2:=za p2
 have q3:w.cell? ⟨mb,1,none⟩=some (.string s):=z8 h.blk 1
 have l3:=zd h.blk
 have HH:=z6 (And.intro h.size (And.intro h.tlt h.mlt))
 have HM:=z6 h
 clear h hbm hbh M p1 p2
 by_cases hlt:k<s.size
 ·rw[zea s ok k hlt]
  have he:((k:Int) == (s.size:Int))=false:=by rw[beq_eq_false_iff_ne];omega
  have HFF:=z6 hF
  clear hF
  cases hok:ok s[k] with
  | true=>
   have HC:Hid (∀ W,Below w.heap.size w W→W.heap[w.heap.size]? = some ZR→Calls Tryz.prog g (#[.int .u8 (UInt8.toNat s[k])]++caps) W fun e w'=>e = .returned (.bool true)∧Hid (Below w.heap.size w w'∧w'.heap[w.heap.size]? = some ZR)):=z6 (fun W hW h0=>by
    refine (HFF.out W s[k] hW).mono ?_
    rintro e w' ⟨h1,h2⟩
    rw[hok] at h1
    exact⟨h1,z6 ⟨hW.trans (h2.mono hW.size),by rw[h2.block _ (zd h0)];exact h0⟩⟩)
   simp only[if_true]
   clear hok HFF
   go_enter Tryz.func220,Tryz.ntmps220
   go_wp2_with fail
   go_region_with (refine (HC.out _ (by repeat (first | exact Below.refl _ _ | refine Below.drew ?_ | refine Below.alloc ?_ (by simp) _)) (by exact zk w _)).mono ?_;rintro _ w1 ⟨rfl,HB⟩)
   all_goals
    have z0:=z8 HB.out.2
    have f0:=zi HB.out.2
    have l0:=za HB.out.2
    go_wp2_with fail
    refine bodyPost_ret (results_cell_row rfl _ _ w.heap.size _ _ _ _ rfl (Jw HB.out.2 _ _) Tryz.underlying229 rfl (by kernel_rfl)) rfl ?_
    have hbf:=QT w1 w.heap.size
    exact⟨rfl,HM.out.low HH.out.1 HH.out.2.1 (HB.out.1.trans (hbf _ _)),KpM.of_below (HB.out.1.trans (hbf _ _))⟩
  | false=>
   have HC:Hid (∀ W,Below w.heap.size w W→W.heap[w.heap.size]? = some ZR→Calls Tryz.prog g (#[.int .u8 (UInt8.toNat s[k])]++caps) W fun e w'=>e = .returned (.bool false)∧Hid (Below w.heap.size w w'∧w'.heap[w.heap.size]? = some ZR)):=z6 (fun W hW h0=>by
    refine (HFF.out W s[k] hW).mono ?_
    rintro e w' ⟨h1,h2⟩
    rw[hok] at h1
    exact⟨h1,z6 ⟨hW.trans (h2.mono hW.size),by rw[h2.block _ (zd h0)];exact h0⟩⟩)
   simp only[Bool.false_eq_true,if_false]
   clear hok HFF
   go_enter Tryz.func220,Tryz.ntmps220
   go_wp2_with fail
   go_region_with (refine (HC.out _ (by repeat (first | exact Below.refl _ _ | refine Below.drew ?_ | refine Below.alloc ?_ (by simp) _)) (by exact zk w _)).mono ?_;rintro _ w1 ⟨rfl,HB⟩)
   all_goals
    have z0:=z8 HB.out.2
    have f0:=zi HB.out.2
    have l0:=za HB.out.2
    go_wp2_with fail
    refine bodyPost_ret (results_cell_row rfl _ _ w.heap.size _ _ _ _ rfl (Jw HB.out.2 _ _) Tryz.underlying229 rfl (by kernel_rfl)) rfl ?_
    have hbf:=QT w1 w.heap.size
    exact⟨rfl,HM.out.low HH.out.1 HH.out.2.1 (HB.out.1.trans (hbf _ _)),KpM.of_below (HB.out.1.trans (hbf _ _))⟩
 ·have hks:k=s.size:=by omega
  subst hks
  rw[zeb]
  have he:((s.size:Int) == (s.size:Int))=true:=by simp
  clear hF hen
  go_enter Tryz.func220,Tryz.ntmps220
  go_wp2_with fail
  go_region
  all_goals
   go_wp2_with fail
   refine bodyPost_ret (results_cell_row rfl _ _ w.heap.size _ _ _ _ rfl (zk w _) Tryz.underlying229 rfl (by kernel_rfl)) rfl ?_
   exact⟨by simp[zN],HM.out.below (zc w _).drew,KpM.of_below (zc w _).drew⟩
end Go.Proofs.YtiganlkabilblaaGreatDoor
