import Derived.Test.YtiganlkabilblaaGreatDoorV18
import Derived.Test.YtiganlkabilblaaGreatDoorV17
set_option linter.all false
set_option maxHeartbeats 64000000
set_option maxRecDepth 100000
namespace Go.Proofs.YtiganlkabilblaaGreatDoor
open Go.RowKit
attribute [local go_sem ↓] Go.wp_at_zero Go.wp_at_succ
theorem zfJ (k:Nat):(k=1∨k=2∨k=3)∨k=4∨k=5∨k=6∨k=9∨(k≠1∧k≠2∧k≠3∧k≠4∧k≠5∧k≠6∧k≠9):=by omega
abbrev exO (k:Nat) (iv:Value) (t:Thk.z7) (r:Int) (pv:Value):Obj:=.cells #[.int .i64 k,iv,.string ⟨t.toArray⟩,.int .i64 r,pv] 149
theorem zhQ (w:World) (B gb lb:Nat) (vx vr:Value) (ps:List (Thk.RE × Value × Value)) (rs:List (Thk.z7 × Nat)) (l:List Bool) (i:Nat) (h:GM w B gb vx vr (ps.map (ZY (zj rs))) rs) (hF:K5 ps rs) (hL:w.heap[lb]? = some (zH l)) (hll:l.length=ps.length) (hi:i<ps.length) (hr0 : 0<rs.length) :
  Calls Tryz.prog 103 #[.pointer (some ⟨gb,0,none⟩),.int .i64 i,.slice (some ⟨lb,0,none⟩) ps.length ps.length] w fun e w'=>e = .returned (.bool (Z3 (zK ps) (zj rs) (Zp rs) l i))∧Below w.heap.size w w':=by
 obtain⟨p,xg,xc,ia,ic,pa,pc,hp,hpm,rfl,hxl,c0,c1,c2,c3,c4,hpl,hpn,hpc⟩:=h.exp hi
 obtain⟨rg,rc,rfl,hrB,hrl⟩:=h.ruAt hr0
 have hlb:=za hL
 have hgl:=h.lt
 have q:=z8 h.blk
 have hru:=h.ruCells
 have hx:(zK ps)[i]? = some p.1:=by rw[List.getElem?_map,hp];rfl
 have hfit:=hF.ex p hpm
 have hil:(i:Int)<ps.length:=by omega
 have HX:=z6 hx
 have HFIT:=z6 hfit
 have HF:=z6 hF
 have HL:=z6 hL
 clear hpm hx hfit hF hL h hp
 have hB0:=z6 (zc w (exO p.1.kind (.slice ia p.1.items.length ic) p.1.text (rfE (zj rs) p.1 0) (.slice pa p.1.parts.length pc)))
 rcases zfJ p.1.kind with hk | hk | hk | hk | hk | hk
 ·have hX:Z3 (zK ps) (zj rs) (Zp rs) l i=false:=by simp only[Z3,HX.out];rw[if_pos hk]
  rw[hX]
  rcases hk with hk | hk | hk
  all_goals
   rw[hk] at c0
   go_enter Tryz.func103,Tryz.ntmps103
   go_wp2_with fail
   go_ret
   exact⟨rfl,by rw[hk] at hB0;exact hB0.out⟩
 ·rw[hk] at c0 hB0
  have hrf:=KU (names:=zj rs) hk
  by_cases hn:(zj rs).contains p.1.text=true
  ·rw[if_pos hn] at hrf
   have hix:(zj rs).idxOf p.1.text<rs.length:=by
    have:=List.idxOf_lt_length_iff.2 (show p.1.text ∈ zj rs by simpa using hn)
    simpa using this
   obtain⟨x,hx⟩:∃ x,x=(zj rs).idxOf p.1.text:=⟨_,rfl⟩
   rw[← hx] at hrf hix
   obtain⟨d0,d1⟩:=hru x hix
   have hbl:=HF.out.ru rs[x] (List.getElem_mem hix)
   have hlc:=Y4 HL.out rs[x].2 (by omega)
   have hX:Z3 (zK ps) (zj rs) (Zp rs) l i=l.getD rs[x].2 false:=by
    simp only[Z3,HX.out,hk,hn,← hx]
    simp[hix]
   rw[hX]
   rw[hrf] at c3 hB0
   have hx0:(0:Int)≤x:=by omega
   have hxr:(x:Int)<rs.length:=by omega
   have hbl':(rs[x].2:Int)<ps.length:=by omega
   obtain⟨b,hb⟩:∃ b,b=l.getD rs[x].2 false:=⟨_,rfl⟩
   rw[← hb] at hlc ⊢
   clear hX hx hn hrf hru d0 hb
   go_enter Tryz.func103,Tryz.ntmps103
   go_wp2_with fail
   go_quiet (fail)
   go_wp2_with fail
   go_ret
   exact⟨rfl,below_drewN hB0.out _⟩
  ·have hX:Z3 (zK ps) (zj rs) (Zp rs) l i=false:=by
    simp only[Z3,HX.out,hk]
    simp at hn
    simp[hn]
   rw[if_neg hn] at hrf
   rw[hX]
   rw[hrf] at c3 hB0
   clear hX hn hrf hru
   go_enter Tryz.func103,Tryz.ntmps103
   go_wp2_with fail
   go_quiet (fail)
   go_wp2_with fail
   go_ret
   exact⟨rfl,below_drewN hB0.out _⟩
 ·rw[hk] at c0 hB0
  have hX:Z3 (zK ps) (zj rs) (Zp rs) l i=p.1.parts.all (fun k=>l.getD k false):=by
   simp only[Z3,HX.out,hk];simp
  have HXX:=z6 hX
  clear hX hru
  go_enter Tryz.func103,Tryz.ntmps103
  go_wp2_with fail
  go_loopg [8] p.1.parts.length (fun m v wr=>∃ k:Nat,m=p.1.parts.length - k∧v = .int .i64 k∧k≤p.1.parts.length∧wr=w.alloc (exO 5 (.slice ia p.1.items.length ic) p.1.text (rfE (zj rs) p.1 0) (.slice pa p.1.parts.length pc))∧Hid (∀ j (h:j<p.1.parts.length),j<k→l.getD p.1.parts[j] false=true))
  case atStart=>exact⟨0,by omega,rfl,by omega,rfl,fun j h h'=>by omega⟩
  case round=>
   obtain⟨k,rfl,rfl,hkl,rfl,HA⟩:=hrel
   by_cases hlt:k<p.1.parts.length
   ·have hlt':(k:Int)<p.1.parts.length:=by omega
    obtain⟨pg,rfl,hpg,hpcell⟩:=hpc k hlt
    have hfl:=HFIT.out.1 p.1.parts[k] (List.getElem_mem hlt)
    have hfl':(p.1.parts[k]:Int)<ps.length:=by omega
    have hlc:=Y4 HL.out p.1.parts[k] (by omega)
    by_cases hb:l.getD p.1.parts[k] false=true
    ·rw[hb] at hlc
     have HA2:Hid (∀ j (h:j<p.1.parts.length),j<k+1→l.getD p.1.parts[j] false=true):=by
      intro j h hj
      by_cases hjk:j=k
      ·subst hjk;exact hb
      ·exact HA.out j h (by omega)
     go_wp2_with fail
     go_roundg (p.1.parts.length - (k+1))
     case measure=>omega
     case rel=>exact⟨k+1,rfl,by go_num,by omega,rfl,HA2⟩
    ·have hb':l.getD p.1.parts[k] false=false:=by simpa using hb
     rw[hb'] at hlc
     have hX:Z3 (zK ps) (zj rs) (Zp rs) l i=false:=by
      rw[HXX.out,List.all_eq_false]
      exact⟨_,List.getElem_mem hlt,by rw[hb'];simp⟩
     go_wp2_with fail
     go_ret
     first | exact⟨rfl,hB0.out⟩ | exact⟨congrArg (fun b=>Ending.returned (Value.bool b)) hX.symm,hB0.out⟩
   ·have hlt':¬ (k:Int)<p.1.parts.length:=by omega
    have hX:Z3 (zK ps) (zj rs) (Zp rs) l i=true:=by
     rw[HXX.out,List.all_eq_true]
     intro x hx
     obtain⟨j,hj,rfl⟩:=List.getElem_of_mem hx
     exact HA.out j hj (by omega)
    go_wp2_with fail
    go_ret
    first | exact⟨rfl,hB0.out⟩ | exact⟨congrArg (fun b=>Ending.returned (Value.bool b)) hX.symm,hB0.out⟩
 ·rw[hk] at c0 hB0
  have hX:Z3 (zK ps) (zj rs) (Zp rs) l i=p.1.parts.any (fun k=>l.getD k false):=by
   simp only[Z3,HX.out,hk];simp
  have HXX:=z6 hX
  clear hX hru
  go_enter Tryz.func103,Tryz.ntmps103
  go_wp2_with fail
  go_loopg [9] p.1.parts.length (fun m v wr=>∃ k:Nat,m=p.1.parts.length - k∧v = .int .i64 k∧k≤p.1.parts.length∧wr=w.alloc (exO 6 (.slice ia p.1.items.length ic) p.1.text (rfE (zj rs) p.1 0) (.slice pa p.1.parts.length pc))∧Hid (∀ j (h:j<p.1.parts.length),j<k→l.getD p.1.parts[j] false=false))
  case atStart=>exact⟨0,by omega,rfl,by omega,rfl,fun j h h'=>by omega⟩
  case round=>
   obtain⟨k,rfl,rfl,hkl,rfl,HA⟩:=hrel
   by_cases hlt:k<p.1.parts.length
   ·have hlt':(k:Int)<p.1.parts.length:=by omega
    obtain⟨pg,rfl,hpg,hpcell⟩:=hpc k hlt
    have hfl:=HFIT.out.1 p.1.parts[k] (List.getElem_mem hlt)
    have hfl':(p.1.parts[k]:Int)<ps.length:=by omega
    have hlc:=Y4 HL.out p.1.parts[k] (by omega)
    by_cases hb:l.getD p.1.parts[k] false=true
    ·rw[hb] at hlc
     have hX:Z3 (zK ps) (zj rs) (Zp rs) l i=true:=by
      rw[HXX.out,List.any_eq_true]
      exact⟨_,List.getElem_mem hlt,hb⟩
     go_wp2_with fail
     go_ret
     first | exact⟨rfl,hB0.out⟩ | exact⟨congrArg (fun b=>Ending.returned (Value.bool b)) hX.symm,hB0.out⟩
    ·have hb':l.getD p.1.parts[k] false=false:=by simpa using hb
     rw[hb'] at hlc
     have HA2:Hid (∀ j (h:j<p.1.parts.length),j<k+1→l.getD p.1.parts[j] false=false):=by
      intro j h hj
      by_cases hjk:j=k
      ·subst hjk;exact hb'
      ·exact HA.out j h (by omega)
     go_wp2_with fail
     go_roundg (p.1.parts.length - (k+1))
     case measure=>omega
     case rel=>exact⟨k+1,rfl,by go_num,by omega,rfl,HA2⟩
   ·have hlt':¬ (k:Int)<p.1.parts.length:=by omega
    have hX:Z3 (zK ps) (zj rs) (Zp rs) l i=false:=by
     rw[HXX.out,List.any_eq_false]
     intro x hx
     obtain⟨j,hj,rfl⟩:=List.getElem_of_mem hx
     rw[HA.out j hj (by omega)];simp
    go_wp2_with fail
    go_ret
    first | exact⟨rfl,hB0.out⟩ | exact⟨congrArg (fun b=>Ending.returned (Value.bool b)) hX.symm,hB0.out⟩
 ·obtain⟨a,ha⟩:=HFIT.out.2.1 (by omega)
  have hal:=HFIT.out.1 a (by rw[ha];simp)
  have hX:Z3 (zK ps) (zj rs) (Zp rs) l i=l.getD a false:=by
   simp only[Z3,HX.out,hk,ha];simp
  obtain⟨pg,rfl,hpg,hpcell⟩:=hpc 0 (by rw[ha];simp)
  simp only[ha,List.getElem_cons_zero] at hpcell
  have hlc:=Y4 HL.out a (by omega)
  rw[hX]
  obtain⟨b,hb⟩:∃ b,b=l.getD a false:=⟨_,rfl⟩
  rw[← hb] at hlc ⊢
  rw[hk] at c0 hB0
  simp only[ha,List.length_singleton] at c4 hB0
  have hal':(a:Int)<ps.length:=by omega
  clear hX hru hb hpc
  go_enter Tryz.func103,Tryz.ntmps103
  go_wp2_with fail
  go_ret
  exact⟨rfl,hB0.out⟩
 ·have hX:Z3 (zK ps) (zj rs) (Zp rs) l i=true:=by
   simp only[Z3,HX.out]
   simp[hk]
  rw[hX]
  have g1:¬ (p.1.kind:Int)=1:=by omega
  have g2:¬ (p.1.kind:Int)=2:=by omega
  have g3:¬ (p.1.kind:Int)=3:=by omega
  have g4:¬ (p.1.kind:Int)=4:=by omega
  have g5:¬ (p.1.kind:Int)=5:=by omega
  have g6:¬ (p.1.kind:Int)=6:=by omega
  have g9:¬ (p.1.kind:Int)=9:=by omega
  go_enter Tryz.func103,Tryz.ntmps103
  go_wp2_with fail
  go_ret
  exact⟨rfl,hB0.out⟩
theorem zbN (n:Nat) (hn:n≤100000) (w:World):(Instr.makeSlice 74 (.int .i64 n) (.int .i64 n)).run Tryz.prog w = .ok (.slice (some ⟨w.heap.size,0,none⟩) n n) (w.alloc (zH (List.replicate n false))):=by
 rw[run_make_row' 74 4 (.bool false) 1 Tryz.underlying74 Tryz.infoBool rfl .i64 .i64 n (by omega) (by omega) w]
 congr 3
 apply Array.toList_inj.1
 rw[toList_madeCells_one];simp
theorem qJ {w:World} {lb:Nat} {l:List Bool} (h:w.heap[lb]? = some (zH l)) (j:Nat):(w.setCell ⟨lb,j,none⟩ (.bool true)).heap[lb]? = some (zH (l.set j true)):=by
 unfold zH at h ⊢
 rw[Jo h,List.map_set]
 congr 2
 apply Array.toList_inj.1
 simp
structure Yd (w:World) (B gb lb:Nat) (vx vr:Value) (ps:List (Thk.RE × Value × Value)) (rs:List (Thk.z7 × Nat)) (g:List Thk.ze) (l:List Bool) (wr:World):Prop where
 mem:GM wr B gb vx vr (ps.map (ZY (zj rs))) rs
 row:wr.heap[lb]? = some (zH l)
 len:l.length=ps.length
 fnd:Yr (zK ps) (zj rs) g l
 below:Below w.heap.size w wr
theorem Yd.go {w:World} {B gb lb:Nat} {vx vr:Value} {ps:List (Thk.RE × Value × Value)} {rs:List (Thk.z7 × Nat)} {g:List Thk.ze} {l:List Bool} {wr w2:World} (h:Yd w B gb lb vx vr ps rs g l wr) (hb:Below wr.heap.size wr w2):Yd w B gb lb vx vr ps rs g l w2:=
 ⟨h.mem.below hb,by rw[hb.block _ (za h.row)];exact h.row,h.len,h.fnd,h.below.trans (hb.mono h.below.size)⟩
theorem Yd.set {w:World} {B gb lb:Nat} {vx vr:Value} {ps:List (Thk.RE × Value × Value)} {rs:List (Thk.z7 × Nat)} {g:List Thk.ze} {l:List Bool} {wr:World} (h:Yd w B gb lb vx vr ps rs g l wr) (hlb:w.heap.size≤lb) (hR:Thk.zV (zK ps) rs g) (i:Nat) (he:Z3 (zK ps) (zj rs) (Zp rs) l i=true):Yd w B gb lb vx vr ps rs g (l.set i true) (wr.setCell ⟨lb,i,none⟩ (.bool true)):=by
 have hlt:=za h.row
 have c:=Chg.set lb i (.bool true) wr
 have hrow:=h.row
 unfold zH at hrow
 refine⟨?_,qJ h.row i,by simp[h.len],h.fnd.step hR he,h.below.setCell hlb _⟩
 have hng:gb≠lb:=by intro e;subst e;rw[h.mem.blk] at hrow;simp at hrow
 exact⟨by rw[c.same gb h.mem.lt hng];exact h.mem.blk,zq c h.mem.ex (zn h.mem.ex hrow (by decide)),zq c h.mem.ru (zn h.mem.ru hrow (by decide)),fun p hp=>zq c (h.mem.items p hp) (zn (h.mem.items p hp) hrow (by decide)),fun p hp=>zq c (h.mem.parts p hp) (zn (h.mem.parts p hp) hrow (by decide))⟩
structure V6 (xs:List Thk.RE) (names:List Thk.z7) (bodies:List Nat) (l0 l:List Bool) (c:Bool) (i:Nat):Prop where
 no:c=false→l=l0∧∀ j,j<i→Z3 xs names bodies l0 j=true→l0.getD j false=true
 yes:c=true→QO l<QO l0
 le:QO l≤QO l0
theorem zhP (w:World) (B gb:Nat) (vx vr:Value) (ps:List (Thk.RE × Value × Value)) (rs:List (Thk.z7 × Nat)) (g:List Thk.ze) (h:GM w B gb vx vr (ps.map (ZY (zj rs))) rs) (hF:K5 ps rs) (h0 : 0<ps.length) (hr0 : 0<rs.length) (hpl:ps.length≤100000) (hR:Thk.zV (zK ps) rs g) :
  Calls Tryz.prog 66 #[.pointer (some ⟨gb,0,none⟩)] w fun e w'=>e = .returned (.slice (some ⟨w.heap.size,0,none⟩) ps.length ps.length)∧∃ l,Yd w B gb w.heap.size vx vr ps rs g l w'∧YK (zK ps) (zj rs) (Zp rs) l:=by
 obtain⟨p0,xg,xc,ia,ic,pa,pc,hp,hpm,rfl,hxl,_⟩:=h.exp h0
 have q:=z8 h.blk
 have hgl:=h.lt
 have hmk:=zbN ps.length hpl w
 have HS:Hid (Yd w B gb w.heap.size (.slice (some ⟨xg,0,none⟩) ps.length xc) vr ps rs g (List.replicate ps.length false) (w.alloc (zH (List.replicate ps.length false)))):=
  ⟨h.below (zc _ _),zk _ _,by simp,Yr.none _,zc _ _⟩
 have HF:=z6 hF
 have HR:=z6 hR
 clear hF h hR hp hpm
 go_enter Tryz.func66,Tryz.ntmps66
 go_wp2_with fail
 go_loopg [4] (ps.length+1) (fun m v wr=>∃ (c:Bool) (l:List Bool),m=QO l+(if c then 1 else 0)∧v = .bool c∧Hid (Yd w B gb w.heap.size (.slice (some ⟨xg,0,none⟩) ps.length xc) vr ps rs g l wr∧(c=false→YK (zK ps) (zj rs) (Zp rs) l)))
 case atStart=>exact⟨true,List.replicate ps.length false,by simp[QO],rfl,HS.out,by simp⟩
 case round=>
  obtain⟨c,l0,rfl,rfl,HI⟩:=hrel
  cases c with
  | false=>
   go_wp2_with fail
   go_ret
   exact⟨rfl,l0,HI.out.1,HI.out.2 (by simp)⟩
  | true=>
   have HSI:Hid (V6 (zK ps) (zj rs) (Zp rs) l0 l0 false 0):=⟨fun _=>⟨rfl,fun j hj=>by omega⟩,by simp,Nat.le_refl _⟩
   have HI1:=z6 HI.out.1
   have q1:=z8 HI1.out.mem.blk
   clear HI q
   go_wp2_with fail
   go_loopg [4,5] ps.length (fun m vc vi wr=>∃ (i:Nat) (c:Bool) (l:List Bool),m=ps.length - i∧vc = .bool c∧vi = .int .i64 i∧i≤ps.length∧Hid (Yd w B gb w.heap.size (.slice (some ⟨xg,0,none⟩) ps.length xc) vr ps rs g l wr∧V6 (zK ps) (zj rs) (Zp rs) l0 l c i))
   case atStart=>exact⟨0,false,l0,by omega,rfl,rfl,by omega,HI1.out,HSI.out⟩
   case round=>
    obtain⟨i,c,l,rfl,rfl,rfl,hi,HJ⟩:=hrel
    have q2:=z8 HJ.out.1.mem.blk
    by_cases hlt:i<ps.length
    ·have hlt':(i:Int)<ps.length:=by omega
     have hem:=zhQ wr B gb w.heap.size _ vr ps rs l i HJ.out.1.mem HF.out HJ.out.1.row HJ.out.1.len hlt hr0
     go_wp2_with fail
     refine hem.mono ?_
     rintro _ w2 ⟨rfl,hb2⟩
     have HE:=z6 (HJ.out.1.go hb2)
     have hlc:=Y4 HE.out.row i (by rw[HE.out.len];exact hlt)
     have hfr:=zi HE.out.row i
     have hsz:=za HE.out.row
     clear hem hb2 q2 q1
     cases hy:Z3 (zK ps) (zj rs) (Zp rs) l i with
     | false=>
      have HN:Hid (V6 (zK ps) (zj rs) (Zp rs) l0 l c (i+1)):=by
       refine⟨fun hc=>?_,HJ.out.2.yes,HJ.out.2.le⟩
       obtain⟨h1,h2⟩:=HJ.out.2.no hc
       refine⟨h1,fun j hj he=>?_⟩
       by_cases hji:j=i
       ·subst hji;rw[← h1,hy] at he;cases he
       ·exact h2 j (by omega) he
      go_wp2_with fail
      go_roundg (ps.length - (i+1))
      case measure=>omega
      case rel=>exact⟨i+1,c,l,rfl,rfl,by go_num,by omega,HE.out,HN.out⟩
     | true=>
      cases hl:l.getD i false with
      | true=>
       rw[hl] at hlc
       have HN:Hid (V6 (zK ps) (zj rs) (Zp rs) l0 l c (i+1)):=by
        refine⟨fun hc=>?_,HJ.out.2.yes,HJ.out.2.le⟩
        obtain⟨h1,h2⟩:=HJ.out.2.no hc
        refine⟨h1,fun j hj he=>?_⟩
        by_cases hji:j=i
        ·subst hji;rw[← h1];exact hl
        ·exact h2 j (by omega) he
       go_wp2_with fail
       go_roundg (ps.length - (i+1))
       case measure=>omega
       case rel=>exact⟨i+1,c,l,rfl,rfl,by go_num,by omega,HE.out,HN.out⟩
      | false=>
       rw[hl] at hlc
       have HN:Hid (V6 (zK ps) (zj rs) (Zp rs) l0 (l.set i true) true (i+1)):=by
        have hu:=qk l i (by rw[HE.out.len];exact hlt) hl
        have:=HJ.out.2.le
        exact⟨by simp,fun _=>by omega,by omega⟩
       have HT:=z6 (HE.out.set (Nat.le_refl _) HR.out i hy)
       go_wp2_with fail
       go_roundg (ps.length - (i+1))
       case measure=>omega
       case rel=>exact⟨i+1,true,_,rfl,rfl,by go_num,by omega,HT.out,HN.out⟩
    ·have hlt':¬ (i:Int)<ps.length:=by omega
     have hie:i=ps.length:=by omega
     clear q1
     go_wp2_with fail
     go_roundg (QO l+(if c then 1 else 0))
     case measure=>
      have h1:=HJ.out.2.le
      cases c with
      | false=>simp;omega
      | true=>have:=HJ.out.2.yes rfl;simp;omega
     case rel=>
      refine⟨c,l,rfl,rfl,HJ.out.1,?_⟩
      intro hc k hk
      obtain⟨h1,h2⟩:=HJ.out.2.no hc
      subst h1
      by_cases hkl:k<ps.length
      ·exact h2 k (by omega) hk
      ·simp only[Z3] at hk
       rw[List.getElem?_eq_none (by simp;omega)] at hk
       cases hk
end Go.Proofs.YtiganlkabilblaaGreatDoor
