import Derived.Test.YtiganlkabilblaaGreatDoorV23
set_option linter.all false
set_option maxHeartbeats 64000000
set_option maxRecDepth 100000
namespace Go.Proofs.YtiganlkabilblaaGreatDoor
open Go.RowKit Thk
attribute [local go_sem ↓] Go.wp_at_zero Go.wp_at_succ
theorem byteOut_end (s:ByteArray) (ok:UInt8→Bool):zaO s.data.toList s.size ok=none:=by
 unfold zaO
 rw[List.getElem?_eq_none (by show s.data.toList.length≤s.size;exact Nat.le_refl _)]
theorem byteOut_at (s:ByteArray) (ok:UInt8→Bool) (k:Nat) (h:k<s.size):zaO s.data.toList k ok=if ok s[k] then some (k+1,.nil) else none:=by
 unfold zaO
 have h':k<s.data.toList.length:=h
 rw[List.getElem?_eq_getElem h']
 simp
 rfl
theorem in_single {wM:World} {mb tb:Nat} {N:List Nd} {bx:List (Nat × Nat × Nat)} {rules:List Nat} {vr:Value} {s:ByteArray} (M:Mde wM mb N bx rules vr) (bm bh g:Nat) (caps:Array Value) (ok:UInt8→Bool) (hbm:wM.heap[bm]? = some (boxO (ptrV mb) 113)) (hbh:wM.heap[bh]? = some (boxO (.func (.func g) #[] caps) 287)) (hsz:s.size≤1000000) (k:Nat) (hk:k≤s.size) (w:World) (h:MS wM mb tb N rules vr s .nil w)
  (hen:∀ (args:Array Value) (w:World),(callFunc g args).run Tryz.prog w = .ok (.enter g args) w)
  (hF:∀ W c,Below w.heap.size w W→Calls Tryz.prog g (#[.int .u8 (UInt8.toNat c)]++caps) W fun e w'=>e = .returned (.bool (ok c))∧Below W.heap.size W w') :
  Calls Tryz.prog 220 #[.int .i64 k,ptrV bm,ptrV bh] w (PostM wM mb tb N rules vr s .nil (zaO s.data.toList k ok) w):=by
 have p1:=h.box M hbm
 have q1:=za0 p1
 have l1:=za3 p1
 have p2:=h.box M hbh
 have q2:=za0 p2
 have l2:=za3 p2
 have q3:w.cell? ⟨mb,1,none⟩=some (.string s):=za0 h.blk 1
 have l3:=za7 h.blk
 have HH:=hideP (And.intro h.size (And.intro h.tlt h.mlt))
 have HM:=hideP h
 clear h hbm hbh M p1 p2
 by_cases hlt:k<s.size
 ·rw[byteOut_at s ok k hlt]
  have he:((k:Int) == (s.size:Int))=false:=by rw[beq_eq_false_iff_ne];omega
  have HFF:=hideP hF
  clear hF
  cases hok:ok s[k] with
  | true=>
   have HC:Hid (∀ W,Below w.heap.size w W→W.heap[w.heap.size]? = some outC→Calls Tryz.prog g (#[.int .u8 (UInt8.toNat s[k])]++caps) W fun e w'=>e = .returned (.bool true)∧Hid (Below w.heap.size w w'∧w'.heap[w.heap.size]? = some outC)):=hideP (fun W hW h0=>by
    refine (HFF.out W s[k] hW).mono ?_
    rintro e w' ⟨h1,h2⟩
    rw[hok] at h1
    exact⟨h1,hideP ⟨hW.trans (h2.mono hW.size),by rw[h2.block _ (za7 h0)];exact h0⟩⟩)
   simp only[if_true]
   clear hok HFF
   go_enter Tryz.func220,Tryz.ntmps220
   go_wp2_with fail
   go_region_with (refine (HC.out _ (by repeat (first | exact Below.refl _ _ | refine Below.drew ?_ | refine Below.alloc ?_ (by simp) _)) (by exact za4 w _)).mono ?_;rintro _ w1 ⟨rfl,HB⟩)
   all_goals
    have z0:=za0 HB.out.2
    have f0:=za2 HB.out.2
    have l0:=za3 HB.out.2
    go_wp2_with fail
    refine bodyPost_ret (results_cell_row rfl _ _ w.heap.size _ _ _ _ rfl (cell2 HB.out.2 _ _) Tryz.underlying229 rfl (by kernel_rfl)) rfl ?_
    have hbf:=zba w1 w.heap.size
    exact⟨rfl,HM.out.low HH.out.1 HH.out.2.1 (HB.out.1.trans (hbf _ _)),KpM.of_below (HB.out.1.trans (hbf _ _))⟩
  | false=>
   have HC:Hid (∀ W,Below w.heap.size w W→W.heap[w.heap.size]? = some outC→Calls Tryz.prog g (#[.int .u8 (UInt8.toNat s[k])]++caps) W fun e w'=>e = .returned (.bool false)∧Hid (Below w.heap.size w w'∧w'.heap[w.heap.size]? = some outC)):=hideP (fun W hW h0=>by
    refine (HFF.out W s[k] hW).mono ?_
    rintro e w' ⟨h1,h2⟩
    rw[hok] at h1
    exact⟨h1,hideP ⟨hW.trans (h2.mono hW.size),by rw[h2.block _ (za7 h0)];exact h0⟩⟩)
   simp only[Bool.false_eq_true,if_false]
   clear hok HFF
   go_enter Tryz.func220,Tryz.ntmps220
   go_wp2_with fail
   go_region_with (refine (HC.out _ (by repeat (first | exact Below.refl _ _ | refine Below.drew ?_ | refine Below.alloc ?_ (by simp) _)) (by exact za4 w _)).mono ?_;rintro _ w1 ⟨rfl,HB⟩)
   all_goals
    have z0:=za0 HB.out.2
    have f0:=za2 HB.out.2
    have l0:=za3 HB.out.2
    go_wp2_with fail
    refine bodyPost_ret (results_cell_row rfl _ _ w.heap.size _ _ _ _ rfl (cell2 HB.out.2 _ _) Tryz.underlying229 rfl (by kernel_rfl)) rfl ?_
    have hbf:=zba w1 w.heap.size
    exact⟨rfl,HM.out.low HH.out.1 HH.out.2.1 (HB.out.1.trans (hbf _ _)),KpM.of_below (HB.out.1.trans (hbf _ _))⟩
 ·have hks:k=s.size:=by omega
  subst hks
  rw[byteOut_end]
  have he:((s.size:Int) == (s.size:Int))=true:=by simp
  clear hF hen
  go_enter Tryz.func220,Tryz.ntmps220
  go_wp2_with fail
  go_region
  all_goals
   go_wp2_with fail
   refine bodyPost_ret (results_cell_row rfl _ _ w.heap.size _ _ _ _ rfl (za4 w _) Tryz.underlying229 rfl (by kernel_rfl)) rfl ?_
   exact⟨by simp[endO],HM.out.below (za1 w _).drew,KpM.of_below (za1 w _).drew⟩
end Go.Proofs.YtiganlkabilblaaGreatDoor
