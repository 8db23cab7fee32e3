import Derived.Test.YtiganlkabilblaaGreatDoorV34
import Derived.Test.YtiganlkabilblaaGreatDoorV17
import Derived.Laws.AppendOwnNone
import Derived.Deep.Upon
set_option linter.all false
set_option maxHeartbeats 64000000
set_option maxRecDepth 100000
namespace Go.Proofs.YtiganlkabilblaaGreatDoor
open Go.RowKit
attribute [local go_sem ↓] Go.wp_at_zero Go.wp_at_succ
def RetW (B gb lb:Nat) (vx vr:Value) (ps:List (Thk.RE × Value × Value)) (rs:List (Thk.z7 × Nat)) (l:List Bool) (u:Bool) (k:Nat) (b:Bool):Prop:=
 ∀ w,GM w B gb vx vr (ps.map (ZY (zj rs))) rs→w.heap[lb]? = some (zH l) →
  Calls Tryz.prog 67 #[.pointer (some ⟨gb,0,none⟩),.int .i64 k,.slice (some ⟨lb,0,none⟩) ps.length ps.length,.bool u] w fun e w'=>e = .returned (.bool b)∧Below w.heap.size w w'
structure Yx (w:World) (B gb lb:Nat) (vx vr:Value) (ps:List (Thk.RE × Value × Value)) (rs:List (Thk.z7 × Nat)) (l bs:List Bool) (O:Obj) (k:Nat) (wr:World):Prop where
 mem:GM wr B gb vx vr (ps.map (ZY (zj rs))) rs
 row:wr.heap[lb]? = some (zH l)
 own:wr.heap[w.heap.size]? = some O
 below:Below w.heap.size w wr
 kept:∀ b,b<w.heap.size→wr.heap[b]? = w.heap[b]?
 no:∀ j (h:j<bs.length),j<k→bs[j]=false
theorem Yx.go {w:World} {B gb lb:Nat} {vx vr:Value} {ps:List (Thk.RE × Value × Value)} {rs:List (Thk.z7 × Nat)} {l bs:List Bool} {O:Obj} {k:Nat} {wr w2:World} (h:Yx w B gb lb vx vr ps rs l bs O k wr) (hb:Below wr.heap.size wr w2) (hk:∀ (h:k<bs.length),bs[k]=false):Yx w B gb lb vx vr ps rs l bs O (k+1) w2:=by
 have hs:=h.below.size
 refine⟨h.mem.below hb,by rw[hb.block _ (za h.row)];exact h.row,by rw[hb.block _ (za h.own)];exact h.own,h.below.trans (hb.mono hs),fun b hlt=>by rw[hb.block b (by omega)];exact h.kept b hlt,?_⟩
 intro j hj hjk
 by_cases hje:j=k
 ·subst hje;exact hk hj
 ·exact h.no j hj (by omega)
theorem Vm {bs:List Bool} (h:∀ j (hj:j<bs.length),bs[j]=false):bs.any id=false:=by
 rw[List.any_eq_false]
 intro x hx
 obtain⟨j,hj,rfl⟩:=List.getElem_of_mem hx
 rw[h j hj];simp
theorem ziB (B gb lb:Nat) (vx vr:Value) (ps:List (Thk.RE × Value × Value)) (rs:List (Thk.z7 × Nat)) (l:List Bool) (u:Bool) (hF:K5 ps rs) (hll:l.length=ps.length):Ve (zK ps) (zj rs) l u (RetW B gb lb vx vr ps rs l u):=by
 intro k e bs hxe hall w h hL
 have hi:k<ps.length:=by
  have:=(List.getElem?_eq_some_iff.1 hxe).1
  simpa using this
 obtain⟨p,xg,xc,ia,ic,pa,pc,hp,hpm,rfl,hxl,c0,c1,c2,c3,c4,hpl,hpn,hpc⟩:=h.exp hi
 have hep:e=p.1:=by
  rw[List.getElem?_map,hp] at hxe
  simpa using hxe.symm
 subst hep
 have hlen:=hall.len
 have hlb:=za hL
 have hgl:=h.lt
 have q:=z8 h.blk
 have hfit:=hF.ex p hpm
 have hkl:(k:Int)<ps.length:=by omega
 obtain⟨O,hO⟩:∃ O,O=exO p.1.kind (.slice ia p.1.items.length ic) p.1.text (rfE (zj rs) p.1 0) (.slice pa p.1.parts.length pc):=⟨_,rfl⟩
 have HS:Hid (Yx w B gb lb (.slice (some ⟨xg,0,none⟩) ps.length xc) vr ps rs l bs O 0 (w.alloc O)):=
  ⟨h.below (zc _ _),by rw[zm _ _ hlb];exact hL,zk _ _,zc _ _,fun b hb=>zm _ _ hb,fun j _ hj=>by omega⟩
 have HALL:=z6 hall
 have HL:=z6 hL
 have HFIT:=z6 hfit
 have HB0:=z6 (zc w O)
 clear hxe hall h hL hF hpm hp hfit
 by_cases hhit:Qk (zj rs) l u p.1=true
 ·have hres:(Qk (zj rs) l u p.1 || bs.any id)=true:=by rw[hhit];rfl
  rw[hres]
  cases u with
  | true=>
   have hk:p.1.kind=4∧(zj rs).contains p.1.text=false:=by simpa [Qk] using hhit
   have hrf:=KU (names:=zj rs) hk.1
   rw[if_neg (by rw[hk.2];simp)] at hrf
   rw[hk.1,hrf] at hO
   rw[hk.1] at c0
   rw[hrf] at c3
   subst hO
   clear hhit hres HS
   go_enter Tryz.func67,Tryz.ntmps67
   go_wp2_with fail
   go_ret
   exact⟨rfl,HB0.out⟩
  | false=>
   have hk:(p.1.kind=8∨p.1.kind=9)∧l.getD (p.1.parts.headD 0) false=true:=by
    simpa [Qk,List.getD_eq_getElem?_getD] using hhit
   obtain⟨hk,hlt⟩:=hk
   obtain⟨a,ha⟩:=HFIT.out.2.1 (by omega)
   have hal:=HFIT.out.1 a (by rw[ha];simp)
   obtain⟨pg,rfl,hpg,hpcell⟩:=hpc 0 (by rw[ha];simp)
   simp only[ha,List.getElem_cons_zero] at hpcell
   have hlc:=Y4 HL.out a (by omega)
   rw[ha] at hlt
   simp only[List.headD_cons] at hlt
   rw[hlt] at hlc
   have hal':(a:Int)<ps.length:=by omega
   simp only[ha,List.length_singleton] at c4 hO
   clear hhit hres HS hpc
   rcases hk with hk | hk
   all_goals
    rw[hk] at c0 hO
    subst hO
    go_enter Tryz.func67,Tryz.ntmps67
    go_wp2_with fail
    go_ret
    exact⟨rfl,HB0.out⟩
 ·have hhf:Qk (zj rs) l u p.1=false:=by simpa using hhit
  rw[hhf,Bool.false_or]
  cases u with
  | true=>
   by_cases hk:p.1.kind=4
   ·have hn:(zj rs).contains p.1.text=true:=by simpa [Qk,hk] using hhf
    have hrf:=KU (names:=zj rs) hk
    rw[if_pos hn] at hrf
    rw[hk,hrf] at hO
    rw[hk] at c0
    rw[hrf] at c3
    obtain⟨x,hx⟩:∃ x,x=(zj rs).idxOf p.1.text:=⟨_,rfl⟩
    rw[← hx] at hO c3
    have hx0:¬ (x:Int)<0:=by omega
    subst hO
    clear hhit hhf hn hrf hx
    go_enter Tryz.func67,Tryz.ntmps67
    go_wp2_with fail
    go_loopg [10] p.1.parts.length (fun m v wr=>∃ t:Nat,m=p.1.parts.length - t∧v = .int .i64 t∧t≤p.1.parts.length∧Hid (Yx w B gb lb (.slice (some ⟨xg,0,none⟩) ps.length xc) vr ps rs l bs (exO 4 (.slice ia p.1.items.length ic) p.1.text x (.slice pa p.1.parts.length pc)) t wr))
    case atStart=>exact⟨0,by omega,rfl,by omega,HS⟩
    case round=>
     obtain⟨t,rfl,rfl,ht,HI⟩:=hrel
     have eq:=z8 HI.out.own
     have elt:=za HI.out.own
     by_cases hlt:t<p.1.parts.length
     ·have hlt':(t:Int)<p.1.parts.length:=by omega
      obtain⟨pg,rfl,hpg,hpcell⟩:=hpc t hlt
      have hpcell2:wr.cell? ⟨pg,t,none⟩=some (.int .i64 p.1.parts[t]):=by rw[World.cell?_of_block (a:=⟨pg,t,none⟩) (HI.out.kept pg hpg)];exact hpcell
      have hcall:=HALL.out.get t hlt (by omega) wr HI.out.mem HI.out.row
      obtain ⟨b, HBB⟩ : ∃ b, Hid (b = bs[t]'(by omega)) := ⟨_, z6 rfl⟩
      rw[← HBB.out] at hcall
      clear hpcell
      go_wp2_with fail
      refine hcall.mono ?_
      rintro _ w2 ⟨rfl,hb2⟩
      cases b with
      | true=>
       have hbs:bs.any id=true:=by
        rw[List.any_eq_true]
        exact⟨true,by rw[HBB.out];exact List.getElem_mem _,rfl⟩
       go_wp2_with fail
       go_ret
       first | exact⟨rfl,HI.out.below.trans (hb2.mono HI.out.below.size)⟩ | exact⟨congrArg (fun b=>Ending.returned (Value.bool b)) hbs.symm,HI.out.below.trans (hb2.mono HI.out.below.size)⟩
      | false=>
       have HN:=z6 (HI.out.go hb2 (fun _=>HBB.out.symm))
       clear hb2 hcall
       go_wp2_with fail
       go_roundg (p.1.parts.length - (t+1))
       case measure=>omega
       case rel=>exact⟨t+1,rfl,by go_num,by omega,HN⟩
     ·have hlt':¬ (t:Int)<p.1.parts.length:=by omega
      have hbs:bs.any id=false:=Vm (fun j hj=>HI.out.no j hj (by omega))
      go_wp2_with fail
      go_ret
      first | exact⟨rfl,HI.out.below⟩ | exact⟨congrArg (fun b=>Ending.returned (Value.bool b)) hbs.symm,HI.out.below⟩
   ·have hk1:¬ (p.1.kind:Int)=4:=by omega
    have hk2:decide ((p.1.kind:Int)=4)=false:=by simp;omega
    subst hO
    clear hhit hhf
    go_enter Tryz.func67,Tryz.ntmps67
    go_wp2_with fail
    go_loopg [10] p.1.parts.length (fun m v wr=>∃ t:Nat,m=p.1.parts.length - t∧v = .int .i64 t∧t≤p.1.parts.length∧Hid (Yx w B gb lb (.slice (some ⟨xg,0,none⟩) ps.length xc) vr ps rs l bs (exO p.1.kind (.slice ia p.1.items.length ic) p.1.text (rfE (zj rs) p.1 0) (.slice pa p.1.parts.length pc)) t wr))
    case atStart=>exact⟨0,by omega,rfl,by omega,HS⟩
    case round=>
     obtain⟨t,rfl,rfl,ht,HI⟩:=hrel
     have eq:=z8 HI.out.own
     have elt:=za HI.out.own
     by_cases hlt:t<p.1.parts.length
     ·have hlt':(t:Int)<p.1.parts.length:=by omega
      obtain⟨pg,rfl,hpg,hpcell⟩:=hpc t hlt
      have hpcell2:wr.cell? ⟨pg,t,none⟩=some (.int .i64 p.1.parts[t]):=by rw[World.cell?_of_block (a:=⟨pg,t,none⟩) (HI.out.kept pg hpg)];exact hpcell
      have hcall:=HALL.out.get t hlt (by omega) wr HI.out.mem HI.out.row
      obtain ⟨b, HBB⟩ : ∃ b, Hid (b = bs[t]'(by omega)) := ⟨_, z6 rfl⟩
      rw[← HBB.out] at hcall
      clear hpcell
      go_wp2_with fail
      refine hcall.mono ?_
      rintro _ w2 ⟨rfl,hb2⟩
      cases b with
      | true=>
       have hbs:bs.any id=true:=by
        rw[List.any_eq_true]
        exact⟨true,by rw[HBB.out];exact List.getElem_mem _,rfl⟩
       go_wp2_with fail
       go_ret
       first | exact⟨rfl,HI.out.below.trans (hb2.mono HI.out.below.size)⟩ | exact⟨congrArg (fun b=>Ending.returned (Value.bool b)) hbs.symm,HI.out.below.trans (hb2.mono HI.out.below.size)⟩
      | false=>
       have HN:=z6 (HI.out.go hb2 (fun _=>HBB.out.symm))
       clear hb2 hcall
       go_wp2_with fail
       go_roundg (p.1.parts.length - (t+1))
       case measure=>omega
       case rel=>exact⟨t+1,rfl,by go_num,by omega,HN⟩
     ·have hlt':¬ (t:Int)<p.1.parts.length:=by omega
      have hbs:bs.any id=false:=Vm (fun j hj=>HI.out.no j hj (by omega))
      go_wp2_with fail
      go_ret
      first | exact⟨rfl,HI.out.below⟩ | exact⟨congrArg (fun b=>Ending.returned (Value.bool b)) hbs.symm,HI.out.below⟩
  | false=>
   by_cases hk:p.1.kind=8∨p.1.kind=9
   ·obtain⟨a,ha⟩:=HFIT.out.2.1 (by omega)
    have hlf:l.getD a false=false:=by
     rcases hk with hk | hk<;>simpa [Qk,hk,ha,List.getD_eq_getElem?_getD] using hhf
    have hal:=HFIT.out.1 a (by rw[ha];simp)
    obtain⟨pg0,hpa0,hpg0,hpcell0⟩:=hpc 0 (by rw[ha];simp)
    simp only[ha,List.getElem_cons_zero] at hpcell0
    have hlc:=Y4 HL.out a (by omega)
    rw[hlf] at hlc
    have hal':(a:Int)<ps.length:=by omega
    have hpl1:p.1.parts.length=1:=by rw[ha];rfl
    have hpl0:(0:Int)<p.1.parts.length:=by omega
    clear hpl1
    subst hpa0
    rcases hk with hk | hk
    ·rw[hk] at c0 hO
     subst hO
     clear hhit hhf ha
     go_enter Tryz.func67,Tryz.ntmps67
     go_wp2_with fail
     go_loopg [10] p.1.parts.length (fun m v wr=>∃ t:Nat,m=p.1.parts.length - t∧v = .int .i64 t∧t≤p.1.parts.length∧Hid (Yx w B gb lb (.slice (some ⟨xg,0,none⟩) ps.length xc) vr ps rs l bs (exO 8 (.slice ia p.1.items.length ic) p.1.text (rfE (zj rs) p.1 0) (.slice (some ⟨pg0,0,none⟩) p.1.parts.length pc)) t wr))
     case atStart=>exact⟨0,by omega,rfl,by omega,HS⟩
     case round=>
      obtain⟨t,rfl,rfl,ht,HI⟩:=hrel
      have eq:=z8 HI.out.own
      have elt:=za HI.out.own
      by_cases hlt:t<p.1.parts.length
      ·have hlt':(t:Int)<p.1.parts.length:=by omega
       obtain⟨pg,hpg1,hpg,hpcell⟩:=hpc t hlt
       obtain rfl:pg=pg0:=by simpa using hpg1.symm
       have hpcell2:wr.cell? ⟨pg,t,none⟩=some (.int .i64 p.1.parts[t]):=by rw[World.cell?_of_block (a:=⟨pg,t,none⟩) (HI.out.kept pg hpg)];exact hpcell
       have hcall:=HALL.out.get t hlt (by omega) wr HI.out.mem HI.out.row
       obtain ⟨b, HBB⟩ : ∃ b, Hid (b = bs[t]'(by omega)) := ⟨_, z6 rfl⟩
       rw[← HBB.out] at hcall
       clear hpcell
       go_wp2_with fail
       refine hcall.mono ?_
       rintro _ w2 ⟨rfl,hb2⟩
       cases b with
       | true=>
        have hbs:bs.any id=true:=by
         rw[List.any_eq_true]
         exact⟨true,by rw[HBB.out];exact List.getElem_mem _,rfl⟩
        go_wp2_with fail
        go_ret
        first | exact⟨rfl,HI.out.below.trans (hb2.mono HI.out.below.size)⟩ | exact⟨congrArg (fun b=>Ending.returned (Value.bool b)) hbs.symm,HI.out.below.trans (hb2.mono HI.out.below.size)⟩
       | false=>
        have HN:=z6 (HI.out.go hb2 (fun _=>HBB.out.symm))
        clear hb2 hcall
        go_wp2_with fail
        go_roundg (p.1.parts.length - (t+1))
        case measure=>omega
        case rel=>exact⟨t+1,rfl,by go_num,by omega,HN⟩
      ·have hlt':¬ (t:Int)<p.1.parts.length:=by omega
       have hbs:bs.any id=false:=Vm (fun j hj=>HI.out.no j hj (by omega))
       go_wp2_with fail
       go_ret
       first | exact⟨rfl,HI.out.below⟩ | exact⟨congrArg (fun b=>Ending.returned (Value.bool b)) hbs.symm,HI.out.below⟩
    ·rw[hk] at c0 hO
     subst hO
     clear hhit hhf ha
     go_enter Tryz.func67,Tryz.ntmps67
     go_wp2_with fail
     go_loopg [10] p.1.parts.length (fun m v wr=>∃ t:Nat,m=p.1.parts.length - t∧v = .int .i64 t∧t≤p.1.parts.length∧Hid (Yx w B gb lb (.slice (some ⟨xg,0,none⟩) ps.length xc) vr ps rs l bs (exO 9 (.slice ia p.1.items.length ic) p.1.text (rfE (zj rs) p.1 0) (.slice (some ⟨pg0,0,none⟩) p.1.parts.length pc)) t wr))
     case atStart=>exact⟨0,by omega,rfl,by omega,HS⟩
     case round=>
      obtain⟨t,rfl,rfl,ht,HI⟩:=hrel
      have eq:=z8 HI.out.own
      have elt:=za HI.out.own
      by_cases hlt:t<p.1.parts.length
      ·have hlt':(t:Int)<p.1.parts.length:=by omega
       obtain⟨pg,hpg1,hpg,hpcell⟩:=hpc t hlt
       obtain rfl:pg=pg0:=by simpa using hpg1.symm
       have hpcell2:wr.cell? ⟨pg,t,none⟩=some (.int .i64 p.1.parts[t]):=by rw[World.cell?_of_block (a:=⟨pg,t,none⟩) (HI.out.kept pg hpg)];exact hpcell
       have hcall:=HALL.out.get t hlt (by omega) wr HI.out.mem HI.out.row
       obtain ⟨b, HBB⟩ : ∃ b, Hid (b = bs[t]'(by omega)) := ⟨_, z6 rfl⟩
       rw[← HBB.out] at hcall
       clear hpcell
       go_wp2_with fail
       refine hcall.mono ?_
       rintro _ w2 ⟨rfl,hb2⟩
       cases b with
       | true=>
        have hbs:bs.any id=true:=by
         rw[List.any_eq_true]
         exact⟨true,by rw[HBB.out];exact List.getElem_mem _,rfl⟩
        go_wp2_with fail
        go_ret
        first | exact⟨rfl,HI.out.below.trans (hb2.mono HI.out.below.size)⟩ | exact⟨congrArg (fun b=>Ending.returned (Value.bool b)) hbs.symm,HI.out.below.trans (hb2.mono HI.out.below.size)⟩
       | false=>
        have HN:=z6 (HI.out.go hb2 (fun _=>HBB.out.symm))
        clear hb2 hcall
        go_wp2_with fail
        go_roundg (p.1.parts.length - (t+1))
        case measure=>omega
        case rel=>exact⟨t+1,rfl,by go_num,by omega,HN⟩
      ·have hlt':¬ (t:Int)<p.1.parts.length:=by omega
       have hbs:bs.any id=false:=Vm (fun j hj=>HI.out.no j hj (by omega))
       go_wp2_with fail
       go_ret
       first | exact⟨rfl,HI.out.below⟩ | exact⟨congrArg (fun b=>Ending.returned (Value.bool b)) hbs.symm,HI.out.below⟩
   ·have hk1:¬ (p.1.kind:Int)=8:=by omega
    have hk2:¬ (p.1.kind:Int)=9:=by omega
    have hk3:decide ((p.1.kind:Int)=8)=false:=by simp;omega
    have hk4:decide ((p.1.kind:Int)=9)=false:=by simp;omega
    subst hO
    clear hhit hhf
    go_enter Tryz.func67,Tryz.ntmps67
    go_wp2_with fail
    go_loopg [10] p.1.parts.length (fun m v wr=>∃ t:Nat,m=p.1.parts.length - t∧v = .int .i64 t∧t≤p.1.parts.length∧Hid (Yx w B gb lb (.slice (some ⟨xg,0,none⟩) ps.length xc) vr ps rs l bs (exO p.1.kind (.slice ia p.1.items.length ic) p.1.text (rfE (zj rs) p.1 0) (.slice pa p.1.parts.length pc)) t wr))
    case atStart=>exact⟨0,by omega,rfl,by omega,HS⟩
    case round=>
     obtain⟨t,rfl,rfl,ht,HI⟩:=hrel
     have eq:=z8 HI.out.own
     have elt:=za HI.out.own
     by_cases hlt:t<p.1.parts.length
     ·have hlt':(t:Int)<p.1.parts.length:=by omega
      obtain⟨pg,rfl,hpg,hpcell⟩:=hpc t hlt
      have hpcell2:wr.cell? ⟨pg,t,none⟩=some (.int .i64 p.1.parts[t]):=by rw[World.cell?_of_block (a:=⟨pg,t,none⟩) (HI.out.kept pg hpg)];exact hpcell
      have hcall:=HALL.out.get t hlt (by omega) wr HI.out.mem HI.out.row
      obtain ⟨b, HBB⟩ : ∃ b, Hid (b = bs[t]'(by omega)) := ⟨_, z6 rfl⟩
      rw[← HBB.out] at hcall
      clear hpcell
      go_wp2_with fail
      refine hcall.mono ?_
      rintro _ w2 ⟨rfl,hb2⟩
      cases b with
      | true=>
       have hbs:bs.any id=true:=by
        rw[List.any_eq_true]
        exact⟨true,by rw[HBB.out];exact List.getElem_mem _,rfl⟩
       go_wp2_with fail
       go_ret
       first | exact⟨rfl,HI.out.below.trans (hb2.mono HI.out.below.size)⟩ | exact⟨congrArg (fun b=>Ending.returned (Value.bool b)) hbs.symm,HI.out.below.trans (hb2.mono HI.out.below.size)⟩
      | false=>
       have HN:=z6 (HI.out.go hb2 (fun _=>HBB.out.symm))
       clear hb2 hcall
       go_wp2_with fail
       go_roundg (p.1.parts.length - (t+1))
       case measure=>omega
       case rel=>exact⟨t+1,rfl,by go_num,by omega,HN⟩
     ·have hlt':¬ (t:Int)<p.1.parts.length:=by omega
      have hbs:bs.any id=false:=Vm (fun j hj=>HI.out.no j hj (by omega))
      go_wp2_with fail
      go_ret
      first | exact⟨rfl,HI.out.below⟩ | exact⟨congrArg (fun b=>Ending.returned (Value.bool b)) hbs.symm,HI.out.below⟩
theorem zdl {w:World} {ops:Array Oper} {rest:List Oper} {o:Oper} {a:Act} {Q:Exit→Act→World→Prop} (hgd:o.guard=none) (s x:Operand)
  (ho:o.op = .call { callee:=.builtin .append,args:=#[s,x],argTypes:=#[40,40] }) (B B2:Nat) (v xv:Value) (ns ms:List Nat) (hs:a.eval s=v) (hv:Ints w B v ns) (hx:a.eval x=xv) (hxv:Ints w B2 xv ms) (hb:ns.length+ms.length≤200000) (hB:B≤w.heap.size)
  (h:∀ v' w',Ints w' B v' (ns++ms)→w.grownBy w' v.ownBlock→wpList Tryz.prog ops Q rest (a.put o.dst v') w'):wpList Tryz.prog ops Q (o::rest) a w:=by
 obtain⟨i0,hi,hz0,hz1,hz2⟩:=info_parts Tryz.infoInt
 have hx2:=hxv
 rcases hx2.2 with ⟨h0,h1⟩ | ⟨g,cap,cur,h0,_,hg,hc1,hc2,_⟩
 ·rw[h0] at hx
  refine wpList_append_own_none hgd s x 40 ho B 3 i0 1 Tryz.underlying40 hi v ns.length (ns.map Zq) hs hv hx (h v w ?_ ⟨rfl,rfl,rfl,Nat.le_refl _,fun _ _ _=>rfl⟩)
  have:ms=[]:=List.length_eq_zero_iff.1 h1
  rw[this,List.append_nil];exact hv
 ·rw[h0] at hx
  refine wpList_append_own w hgd s x 40 ho B 3 i0 _ 1 8 Tryz.underlying40 hi hz0 hz1 hz2 rfl (by decide) v ns.length (ns.map Zq) hs hv ⟨g,0,none⟩ ms.length cap (ms.map Zq) hx (by simp) ?_ ?_ (by unfold maxLen;omega) (by omega) hB ?_
  ·intro j u hu
   have hj:j<ms.length:=by
    have:=(List.getElem?_eq_some_iff.1 hu).1
    simpa using this
   rw[h0] at hxv
   have:=hxv.cellAt (g:=g) j (by omega)
   rw[show (Addr.add ⟨g,0,none⟩ j)=⟨g,j,none⟩ from by unfold Addr.add;split<;>simp_all,this];exact hu
  ·intro u hu
   obtain⟨n,_,rfl⟩:=List.mem_map.1 hu
   rfl
  ·intro v' w' h2 h3 _
   refine h v' w' ?_ h3
   unfold Ints
   simpa using h2
def qB (B gb lb:Nat) (vx vr:Value) (ps:List (Thk.RE × Value × Value)) (rs:List (Thk.z7 × Nat)) (l:List Bool) (k:Nat) (fs:List Nat):Prop:=
 ∀ w,GM w B gb vx vr (ps.map (ZY (zj rs))) rs→w.heap[lb]? = some (zH l) →
  Calls Tryz.prog 104 #[.pointer (some ⟨gb,0,none⟩),.int .i64 k,.slice (some ⟨lb,0,none⟩) ps.length ps.length] w fun e w'=>∃ v,e = .returned v∧Ints w' w.heap.size v fs∧Below w.heap.size w w'
structure K4 (w:World) (fs:List (List Nat)) (sq:Bool) (ls:List Bool) (O:Obj) (k:Nat) (acc:List Nat) (v:Value) (wr:World):Prop where
 own:wr.heap[w.heap.size]? = some O
 below:Below w.heap.size w wr
 out:Ints wr (w.heap.size+1) v acc
 join:ZI sq fs ls=acc++ZI sq (fs.drop k) (ls.drop k)
theorem zbK (sq:Bool) (fs:List (List Nat)) (ls:List Bool) (k:Nat) (h1:k<fs.length) (h2:k<ls.length):ZI sq (fs.drop k) (ls.drop k)=fs[k]++(if sq && !ls[k] then [] else ZI sq (fs.drop (k+1)) (ls.drop (k+1))):=by
 rw[List.drop_eq_getElem_cons h1,List.drop_eq_getElem_cons h2];rfl
theorem K4.grown {w:World} {fs:List (List Nat)} {sq:Bool} {ls:List Bool} {O:Obj} {k:Nat} {acc:List Nat} {v:Value} {wr w2 w3:World}
  (h:K4 w fs sq ls O k acc v wr) (hb:Below wr.heap.size wr w2) (hg:w2.grownBy w3 v.ownBlock):w3.heap[w.heap.size]? = some O∧Below w.heap.size w w3:=by
 have hs:=h.below.size
 have hs2:=hb.size
 have hs3:=hg.size
 have hol:=za h.own
 have hlo:∀ k,k≤w.heap.size→w3.heap[k]? = wr.heap[k]? := by
  intro k hk
  rw[hg.block k (by omega) (fun e=>by have:=(h.out.lt k e.symm).1;omega)]
  exact hb.block k (by omega)
 refine⟨by rw[hlo _ (Nat.le_refl _)];exact h.own,?_⟩
 exact⟨hg.os.trans (hb.os.trans h.below.os),hg.tape.trans (hb.tape.trans h.below.tape),hg.output.trans (hb.output.trans h.below.output),by omega,fun k hk=>by rw[hlo k (by omega)];exact h.below.block k hk⟩
theorem zhU (B gb lb:Nat) (vx vr:Value) (ps:List (Thk.RE × Value × Value)) (rs:List (Thk.z7 × Nat)) (l:List Bool) (hF:K5 ps rs) (hll:l.length=ps.length):Vd (zK ps) (zj rs) l (qB B gb lb vx vr ps rs l):=by
 constructor
 ·intro k e hxe hk4 hn w h hL
  have hi:k<ps.length:=by
   have:=(List.getElem?_eq_some_iff.1 hxe).1
   simpa using this
  obtain⟨p,xg,xc,ia,ic,pa,pc,hp,hpm,rfl,hxl,c0,c1,c2,c3,c4,hpl,hpn,hpc⟩:=h.exp hi
  have hep:e=p.1:=by
   rw[List.getElem?_map,hp] at hxe
   simpa using hxe.symm
  subst hep
  have hgl:=h.lt
  have q:=z8 h.blk
  have hkl:(k:Int)<ps.length:=by omega
  have hrf:=KU (names:=zj rs) hk4
  rw[if_pos hn] at hrf
  have hid:idx0 (zj rs) p.1.text=(zj rs).idxOf p.1.text:=by unfold idx0;rw[if_pos hn]
  rw[hid]
  obtain⟨x,hx⟩:∃ x,x=(zj rs).idxOf p.1.text:=⟨_,rfl⟩
  rw[← hx] at hrf ⊢
  rw[hk4] at c0
  rw[hrf] at c3
  clear hxe h hL hpm hp hrf hid hn hx
  go_enter Tryz.func104,Tryz.ntmps104
  go_wp2_with fail
  go_ret
  refine⟨_,rfl,⟨by simp,.inr ⟨w.heap.size+1,1,_,rfl,by omega,Ji _ _ _ (by simp),by simp,by unfold maxLen;omega,rfl,rfl⟩⟩,(zc _ _).alloc (by simp) _⟩
 ·intro k e fs hxe hk4 hall hbd w h hL
  have hi:k<ps.length:=by
   have:=(List.getElem?_eq_some_iff.1 hxe).1
   simpa using this
  obtain⟨p,xg,xc,ia,ic,pa,pc,hp,hpm,rfl,hxl,c0,c1,c2,c3,c4,hpl,hpn,hpc⟩:=h.exp hi
  have hep:e=p.1:=by
   rw[List.getElem?_map,hp] at hxe
   simpa using hxe.symm
  subst hep
  have hlen:=hall.len
  have hlb:=za hL
  have hgl:=h.lt
  have q:=z8 h.blk
  have hfit:=hF.ex p hpm
  have hkl:(k:Int)<ps.length:=by omega
  obtain⟨O,hO⟩:∃ O,O=exO p.1.kind (.slice ia p.1.items.length ic) p.1.text (rfE (zj rs) p.1 0) (.slice pa p.1.parts.length pc):=⟨_,rfl⟩
  have HS:Hid (K4 w fs (p.1.kind == 5) (p.1.parts.map fun p=>l.getD p false) O 0 [] (.slice none 0 0) (w.alloc O)):=
   ⟨zk _ _,zc _ _,World.ownsRow_nil _ _ _ _,by simp⟩
  have HALL:=z6 hall
  have HL:=z6 hL
  have HM:=z6 h
  have HFIT:=z6 hfit
  have HBD:=z6 hbd
  have HB0:=z6 (zc w O)
  clear hxe hall h hL hF hpm hp hfit hbd
  by_cases hk5:p.1.kind=5
  ·rw[show (p.1.kind == 5)=true from by simpa using hk5] at HS HBD ⊢
   rw[hk5] at c0 hO
   subst hO
   go_enter Tryz.func104,Tryz.ntmps104
   go_wp2_with fail
   go_loopg [8,9] p.1.parts.length (fun m vo vi wr=>∃ (t:Nat) (acc:List Nat),m=p.1.parts.length - t∧vi = .int .i64 t∧t≤p.1.parts.length∧Hid (K4 w fs true (p.1.parts.map fun p=>l.getD p false) (exO 5 (.slice ia p.1.items.length ic) p.1.text (rfE (zj rs) p.1 0) (.slice pa p.1.parts.length pc)) t acc vo wr))
   case atStart=>exact⟨0,[],by omega,rfl,by omega,HS⟩
   case round=>
    obtain⟨t,acc,rfl,rfl,ht,HI⟩:=hrel
    have eq:=z8 HI.out.own
    have elt:=za HI.out.own
    by_cases hlt:t<p.1.parts.length
    ·have hlt':(t:Int)<p.1.parts.length:=by omega
     obtain⟨pg,rfl,hpg,hpcell⟩:=hpc t hlt
     have hpcell2:wr.cell? ⟨pg,t,none⟩=some (.int .i64 p.1.parts[t]):=by rw[World.cell?_of_block (a:=⟨pg,t,none⟩) (HI.out.below.block pg hpg)];exact hpcell
     have hfit:=HFIT.out.1 p.1.parts[t] (List.getElem_mem hlt)
     have hfit':(p.1.parts[t]:Int)<ps.length:=by omega
     have htf:t<fs.length:=by omega
     have hcall:=HALL.out.get t hlt htf wr (HM.out.below HI.out.below) (by rw[HI.out.below.block _ hlb];exact HL.out)
     have HJ:=z6 (zbK true fs (p.1.parts.map fun p=>l.getD p false) t htf (by simpa using hlt))
     have HBN:Hid (acc.length+fs[t].length≤100000):=by
      have h1:=HBD.out
      rw[HI.out.join,HJ.out] at h1
      simp only[List.length_append] at h1
      show _≤_
      omega
     have HPC:=z6 hpcell
     clear hpcell
     go_wp2_with (first
      | (at_builtin;refine zdl rfl _ _ rfl (w.heap.size+1) wr.heap.size _ _ acc fs[t] rfl (Zv HI.out.out hb2) rfl hint (by have:=HBN.out;omega) (by have:=hb2.size;omega) ?_)
      | (go_at_call 104;refine hcall.mono ?_;rintro _ w2 ⟨v2,rfl,hint,hb2⟩))
     intro v3 w3 hint3 hg3
     obtain⟨ho3,hb3⟩:=HI.out.grown hb2 hg3
     have eq3:=z8 ho3
     have elt3:=za ho3
     have hpcell3:w3.cell? ⟨pg,t,none⟩=some (.int .i64 p.1.parts[t]):=by rw[World.cell?_of_block (a:=⟨pg,t,none⟩) (hb3.block pg hpg)];exact HPC.out
     have hlc:=Y4 (w:=w3) (lb:=lb) (l:=l) (by rw[hb3.block _ hlb];exact HL.out) p.1.parts[t] (by omega)
     have HINT3:=z6 hint3
     have HO3:=z6 ho3
     have HB3:=z6 hb3
     clear hcall hint hb2 hint3 ho3 hb3 hg3 eq hpcell2
     cases hb:l.getD p.1.parts[t] false with
     | true=>
      rw[hb] at hlc
      have HN:Hid (K4 w fs true (p.1.parts.map fun p=>l.getD p false) (exO 5 (.slice ia p.1.items.length ic) p.1.text (rfE (zj rs) p.1 0) (.slice (some ⟨pg,0,none⟩) p.1.parts.length pc)) (t+1) (acc++fs[t]) v3 w3):=by
       refine⟨HO3.out,HB3.out,HINT3.out,?_⟩
       rw[HI.out.join,HJ.out,List.append_assoc,if_neg (by simp only[List.getElem_map];rw[hb];simp)]
      go_wp2_with fail
      go_roundg (p.1.parts.length - (t+1))
      case measure=>omega
      case rel=>exact⟨t+1,_,rfl,by go_num,by omega,HN⟩
     | false=>
      rw[hb] at hlc
      have hr:acc++fs[t]=ZI true fs (p.1.parts.map fun p=>l.getD p false):=by
       rw[HI.out.join,HJ.out,if_pos (by simp only[List.getElem_map];rw[hb];rfl)];simp
      have HRR:=z6 hr
      clear hr
      go_wp2_with fail
      go_ret
      exact⟨_,rfl,by rw[← HRR.out];exact Zn HINT3.out (by omega),HB3.out⟩
    ·have hlt':¬ (t:Int)<p.1.parts.length:=by omega
     have hr:acc=ZI true fs (p.1.parts.map fun p=>l.getD p false):=by
      rw[HI.out.join,List.drop_eq_nil_of_le (show fs.length≤t by omega)];simp[ZI]
     have HRR:=z6 hr
     clear hr
     go_wp2_with fail
     go_ret
     have hend:=Zn HI.out.out (show w.heap.size≤w.heap.size+1 by omega)
     have hacc:=HRR.out
     subst hacc
     exact⟨_,rfl,hend,HI.out.below⟩
  ·rw[show (p.1.kind == 5)=false from by simpa using hk5] at HS HBD ⊢
   have hk1:¬ (p.1.kind:Int)=5:=by omega
   have hk2:¬ (p.1.kind:Int)=4:=by omega
   have hk3:((p.1.kind:Int) == 5)=false:=by simp;omega
   have hk4b:((p.1.kind:Int) == 4)=false:=by simp;omega
   subst hO
   go_enter Tryz.func104,Tryz.ntmps104
   go_wp2_with fail
   go_loopg [8,9] p.1.parts.length (fun m vo vi wr=>∃ (t:Nat) (acc:List Nat),m=p.1.parts.length - t∧vi = .int .i64 t∧t≤p.1.parts.length∧Hid (K4 w fs false (p.1.parts.map fun p=>l.getD p false) (exO p.1.kind (.slice ia p.1.items.length ic) p.1.text (rfE (zj rs) p.1 0) (.slice pa p.1.parts.length pc)) t acc vo wr))
   case atStart=>exact⟨0,[],by omega,rfl,by omega,HS⟩
   case round=>
    obtain⟨t,acc,rfl,rfl,ht,HI⟩:=hrel
    have eq:=z8 HI.out.own
    have elt:=za HI.out.own
    by_cases hlt:t<p.1.parts.length
    ·have hlt':(t:Int)<p.1.parts.length:=by omega
     obtain⟨pg,rfl,hpg,hpcell⟩:=hpc t hlt
     have hpcell2:wr.cell? ⟨pg,t,none⟩=some (.int .i64 p.1.parts[t]):=by rw[World.cell?_of_block (a:=⟨pg,t,none⟩) (HI.out.below.block pg hpg)];exact hpcell
     have hfit:=HFIT.out.1 p.1.parts[t] (List.getElem_mem hlt)
     have hfit':(p.1.parts[t]:Int)<ps.length:=by omega
     have htf:t<fs.length:=by omega
     have hcall:=HALL.out.get t hlt htf wr (HM.out.below HI.out.below) (by rw[HI.out.below.block _ hlb];exact HL.out)
     have HJ:=z6 (zbK false fs (p.1.parts.map fun p=>l.getD p false) t htf (by simpa using hlt))
     have HBN:Hid (acc.length+fs[t].length≤100000):=by
      have h1:=HBD.out
      rw[HI.out.join,HJ.out] at h1
      simp only[List.length_append] at h1
      show _≤_
      omega
     have HPC:=z6 hpcell
     clear hpcell
     go_wp2_with (first
      | (at_builtin;refine zdl rfl _ _ rfl (w.heap.size+1) wr.heap.size _ _ acc fs[t] rfl (Zv HI.out.out hb2) rfl hint (by have:=HBN.out;omega) (by have:=hb2.size;omega) ?_)
      | (go_at_call 104;refine hcall.mono ?_;rintro _ w2 ⟨v2,rfl,hint,hb2⟩))
     intro v3 w3 hint3 hg3
     obtain⟨ho3,hb3⟩:=HI.out.grown hb2 hg3
     have eq3:=z8 ho3
     have elt3:=za ho3
     have hpcell3:w3.cell? ⟨pg,t,none⟩=some (.int .i64 p.1.parts[t]):=by rw[World.cell?_of_block (a:=⟨pg,t,none⟩) (hb3.block pg hpg)];exact HPC.out
     have hlc:=Y4 (w:=w3) (lb:=lb) (l:=l) (by rw[hb3.block _ hlb];exact HL.out) p.1.parts[t] (by omega)
     have HINT3:=z6 hint3
     have HO3:=z6 ho3
     have HB3:=z6 hb3
     clear hcall hint hb2 hint3 ho3 hb3 hg3 eq hpcell2
     have HN:Hid (K4 w fs false (p.1.parts.map fun p=>l.getD p false) (exO p.1.kind (.slice ia p.1.items.length ic) p.1.text (rfE (zj rs) p.1 0) (.slice (some ⟨pg,0,none⟩) p.1.parts.length pc)) (t+1) (acc++fs[t]) v3 w3):=by
      refine⟨HO3.out,HB3.out,HINT3.out,?_⟩
      rw[HI.out.join,HJ.out,List.append_assoc,if_neg (by simp)]
     go_wp2_with fail
     go_roundg (p.1.parts.length - (t+1))
     case measure=>omega
     case rel=>exact⟨t+1,_,rfl,by go_num,by omega,HN⟩
    ·have hlt':¬ (t:Int)<p.1.parts.length:=by omega
     have hr:acc=ZI false fs (p.1.parts.map fun p=>l.getD p false):=by
      rw[HI.out.join,List.drop_eq_nil_of_le (show fs.length≤t by omega)];simp[ZI]
     have HRR:=z6 hr
     clear hr
     go_wp2_with fail
     go_ret
     have hend:=Zn HI.out.out (show w.heap.size≤w.heap.size+1 by omega)
     have hacc:=HRR.out
     subst hacc
     exact⟨_,rfl,hend,HI.out.below⟩
def Q1 (w:World) (B:Nat) (v:Value) (ns:List Nat):Prop:=∃ ao b off cap,v = .slice ao ns.length cap∧Came w 1 ao b off ns.length cap (ns.map Zq)∧(0<cap→B≤b)∧cap≤maxLen
theorem Q1.ofInts {w:World} {B:Nat} {v:Value} {ns:List Nat} (h:Ints w B v ns):Q1 w B v ns:=by
 have h':=h
 rcases h'.2 with ⟨rfl,h0⟩ | ⟨g,cap,cur,rfl,hB,hg,h1,h2,h3,h4⟩
 ·have:ns=[]:=List.length_eq_zero_iff.1 h0
  subst this
  exact⟨none,0,0,0,rfl,⟨Nat.le_refl _,fun h=>absurd h (by omega),fun h=>absurd h (by omega),rfl,fun j u hu=>by simp at hu,fun j hj=>by simp at hj⟩,fun h=>absurd h (by omega),by omega⟩
 ·refine⟨_,g,0,cap,rfl,⟨h1,fun _=>rfl,fun _=>za hg,by simp,?_,?_⟩,fun _=>hB,h2⟩
  ·intro j u hu
   have hj:j<ns.length:=by
    have:=(List.getElem?_eq_some_iff.1 hu).1
    simpa using this
   have:=h.cellAt (g:=g) j (by omega)
   rw[Nat.zero_add,this];exact hu
  ·intro j hj
   refine⟨?_,zi hg _⟩
   rw[z8 hg]
   have : 0+ns.length * 1+j<cur.size:=by omega
   rw[Array.getElem?_eq_getElem this];rfl
theorem Q1.kept {w w':World} {B:Nat} {v:Value} {ns:List Nat} (h:Q1 w B v ns) (hb:Below w.heap.size w w'):Q1 w' B v ns:=by
 obtain⟨ao,b,off,cap,h1,hc,h2,h3⟩:=h
 refine⟨ao,b,off,cap,h1,⟨hc.le,hc.addr,fun h=>Nat.lt_of_lt_of_le (hc.lt h) hb.size,hc.oldsLen,?_,?_⟩,h2,h3⟩
 ·intro j u hu
  have hj:j<ns.length:=by
   have:=(List.getElem?_eq_some_iff.1 hu).1
   simpa using this
  rw[World.cell?_of_block (a:=⟨b,off+j,none⟩) (hb.block b (hc.lt (by have:=hc.le;omega)))]
  exact hc.olds j u hu
 ·intro j hj
  have:=hc.spare j hj
  have hbl:=hb.block b (hc.lt (by omega))
  rw[World.cell?_of_block (a:=⟨b,_,none⟩) hbl,World.frozen?_of_block (a:=⟨b,_,none⟩) hbl]
  exact this
theorem Q1.tail {w:World} {B:Nat} {k:Nat} {ns:List Nat} {v:Value} (h:Q1 w B v (k::ns)):∃ b off cap,v = .slice (some ⟨b,off,none⟩) (ns.length+1) (cap+1)∧B≤b∧b<w.heap.size∧w.cell? ⟨b,off,none⟩=some (.int .i64 k)∧cap+1≤maxLen∧ns.length≤cap ∧
  Q1 w B (.slice (some ⟨b,off+1,none⟩) ns.length cap) ns:=by
 obtain⟨ao,b,off,cap,h1,hc,h2,h3⟩:=h
 have hle:=hc.le
 simp only[List.length_cons] at hle
 obtain⟨c,rfl⟩:∃ c,cap=c+1:=⟨cap - 1,by omega⟩
 have ha:=hc.addr (by omega)
 subst ha
 have h0:=hc.olds 0 (Zq k) (by simp)
 refine⟨b,off,c,by rw[h1];rfl,h2 (by omega),hc.lt (by omega),h0,h3,by omega,⟨_,b,off+1,c,rfl,⟨by omega,fun _=>rfl,fun _=>hc.lt (by omega),by simp,?_,?_⟩,fun _=>h2 (by omega),by omega⟩⟩
 ·intro j u hu
  have:=hc.olds (j+1) u (by simpa using hu)
  rw[show off+1+j=off+(j+1) from by omega];exact this
 ·intro j hj
  have:=hc.spare j (by simp only[List.length_cons];omega)
  simp only[List.length_cons] at this
  rw[show off+1+ns.length * 1+j=off+(ns.length+1) * 1+j from by omega];exact this
theorem zar (b:Nat):∀ (vs:List Value) (o:Nat) (w:World),(w.setCells b o vs).tape=w.tape∧(w.setCells b o vs).heap.size=w.heap.size
 | [],_,_=>⟨rfl,rfl⟩
 | v::r,o,w=>by
  have:=zar b r (o+1) (w.setCell ⟨b,o,none⟩ v)
  simp only[World.setCells]
  exact⟨this.1,by rw[this.2];simp⟩
structure Fr (B:Nat) (w w':World):Prop where
 os:w'.os=w.os
 tape:w'.tape=w.tape
 output:w'.output=w.output
 size:w.heap.size≤w'.heap.size
 block:∀ k,k<w.heap.size→k<B→w'.heap[k]? = w.heap[k]?
theorem zfu {ms:List Nat}:∀ u ∈ ms.map Zq,u.oneCell'=true:=by
 intro u hu
 obtain⟨n,_,rfl⟩:=List.mem_map.1 hu
 rfl
theorem Ints.src {w:World} {B:Nat} {v:Value} {ns:List Nat} (h:Ints w B v ns):Src Tryz.prog 1 40 v ns.length (ns.map Zq) w:=by
 have h':=h
 rcases h'.2 with ⟨rfl,h0⟩ | ⟨g,cap,cur,rfl,hB,hg,h1,h2,h3,h4⟩
 ·have:ns=[]:=List.length_eq_zero_iff.1 h0
  subst this
  exact Src.ofNil w Tryz.underlying40 0
 ·refine Src.ofSlice w Tryz.underlying40 ⟨g,0,none⟩ _ _ _ (by simp) ?_ zfu
  intro j u hu
  have hj:j<ns.length:=by
   have:=(List.getElem?_eq_some_iff.1 hu).1
   simpa using this
  have:=h.cellAt (g:=g) j (by omega)
  rw[show (Addr.add ⟨g,0,none⟩ j)=⟨g,j,none⟩ from by unfold Addr.add;split<;>simp_all,this];exact hu
theorem ziw {w:World} {B B2:Nat} {v xv:Value} {ns ms:List Nat} (ty:TypeId) (h:Q1 w B v ns) (hx:Ints w B2 xv ms) (hb:ns.length+ms.length≤200000) (hB:B≤w.heap.size) :
  ∃ v' w',(Builtin.append_ #[40,40] ty #[v,xv]).run Tryz.prog w = .ok v' w'∧Q1 w' B v' (ns++ms)∧Fr B w w':=by
 obtain⟨i0,hi,hz0,hz1,hz2⟩:=info_parts Tryz.infoInt
 obtain⟨ao,b,off,cap,rfl,hc,h2,h3⟩:=h
 have hs:=hx.src
 rw[← hz1] at hs
 have hle:=hc.le
 by_cases hfit:ns.length+ms.length≤cap
 ·rcases Nat.eq_zero_or_pos cap with h0 | hcap
  ·subst h0
   have e1:ns=[]:=List.length_eq_zero_iff.1 (by omega)
   have e2:ms=[]:=List.length_eq_zero_iff.1 (by omega)
   subst e1;subst e2
   exact⟨_,_,run_append_nothing (P:=Tryz.prog) w 40 40 ty 3 i0 Tryz.underlying40 hi ao 0 0 (by omega) xv hs,⟨ao,b,off,0,rfl,hc,h2,h3⟩,⟨rfl,rfl,rfl,Nat.le_refl _,fun _ _ _=>rfl⟩⟩
  ·have hao:=hc.addr hcap
   subst hao
   have hsp:∀ j,j<(ms.map Zq).length→(w.cell? ⟨b,off+ns.length * i0.size+j,none⟩).isSome=true∧w.frozen? ⟨b,off+ns.length * i0.size+j,none⟩=false:=by
    intro j hj
    rw[hz1];exact hc.spare j (by simp at hj;omega)
   have hrun:=run_append_room_src (P:=Tryz.prog) w 40 40 ty 3 i0 Tryz.underlying40 hi b off ns.length cap xv ms.length (ms.map Zq) hs hfit (fun j hj=>(hsp j hj).1) (fun j hj=>(hsp j hj).2)
   obtain⟨ht,hsz⟩:=zar b (ms.map Zq) (off+ns.length * i0.size) w
   refine⟨_,_,hrun,⟨_,b,off,cap,by rw[List.length_append],⟨by rw[List.length_append];omega,fun _=>rfl,fun _=>by rw[hsz];exact hc.lt hcap,by simp,?_,?_⟩,h2,h3⟩,⟨World.os_setCells _ _ _ _,ht,World.output_setCells _ _ _ _,by rw[hsz];exact Nat.le_refl _,fun k hk hkB=>World.heap_setCells_other _ _ _ _ hk (by have:=h2 hcap;omega)⟩⟩
   ·intro j u hu
    rw[List.map_append] at hu
    by_cases hj:j<ns.length
    ·rw[World.cell?_setCells_out b _ _ _ _ (fun _ _=>Or.inl (by show off+j<_;rw[hz1];omega))]
     rw[List.getElem?_append_left (by simpa using hj)] at hu
     exact hc.olds j u hu
    ·rw[List.getElem?_append_right (by simp;omega)] at hu
     simp only[List.length_map] at hu
     obtain⟨hj2,hu2⟩:=List.getElem?_eq_some_iff.1 hu
     have:=World.cell?_setCells_in b (ms.map Zq) (off+ns.length * i0.size) w (fun j hj=>(hsp j hj).1) (j - ns.length) hj2
     rw[show off+ns.length * i0.size+(j - ns.length)=off+j from by rw[hz1];omega] at this
     rw[this,hu2]
   ·intro j hj
    simp only[List.length_append] at hj ⊢
    rw[World.frozen?_setCells,World.cell?_setCells_out b _ _ _ _ (fun _ _=>Or.inr (by show _≤off+(ns.length+ms.length) * 1+j;rw[hz1];simp;omega))]
    have:=hc.spare (ms.length+j) (by omega)
    rw[show off+(ns.length+ms.length) * 1+j=off+ns.length * 1+(ms.length+j) from by omega];exact this
 ·have hg:cap<ns.length+ms.length:=by omega
  have hold:(Builtin.firstCells i0.size ns.length (.slice ao ns.length cap)).run Tryz.prog w.drew = .ok (ns.map Zq).toArray w.drew:=by
   rcases Nat.eq_zero_or_pos cap with h0 | hcap
   ·have e1:ns=[]:=List.length_eq_zero_iff.1 (by omega)
    subst e1
    cases ao with
    | none=>exact run_firstCells_none w.drew i0.size 0 0 cap
    | some a=>exact run_firstCells_some w.drew i0.size 0 a 0 cap [] (by simp) (by simp)
   ·have hao:=hc.addr hcap
    subst hao
    refine run_firstCells_some w.drew i0.size ns.length ⟨b,off,none⟩ _ _ _ (by simp[hz1]) ?_
    intro j u hu
    rw[Addr.add_lit]
    exact hc.olds j u hu
  have hby:(ns.length+ms.length) * i0.bytes≤140737488355328:=by rw[hz2];omega
  have hrun:=run_append_grow_src (P:=Tryz.prog) w 40 40 ty 3 i0 _ Tryz.underlying40 hi hz0 ao ns.length cap (ns.map Zq) hold xv ms.length (ms.map Zq) hs hg (by omega) (growslice_fits hg hby)
  have hge:=grownCap_ge w (ns.length+ms.length) cap 3
  have hcm:=grownCap_le_maxLen w (ns.length+ms.length) cap 3 (by unfold maxLen;omega)
  refine⟨_,_,hrun,Q1.ofInts ⟨by simp,.inr ⟨w.heap.size,_,_,by rw[List.length_append],hB,zk w.drew _,by rw[List.length_append];exact hge,hcm,?_,?_⟩⟩,⟨rfl,rfl,rfl,by simp,fun k hk _=>Below.heap_alloc w.drew _ k hk⟩⟩
  ·have h1:(Value.int IntKind.i64 0).cells.size=1:=rfl
   rw[Array.size_append,List.size_toArray,size_zeroCells,h1]
   simp
   omega
  ·simp[← List.map_append]
end Go.Proofs.YtiganlkabilblaaGreatDoor
