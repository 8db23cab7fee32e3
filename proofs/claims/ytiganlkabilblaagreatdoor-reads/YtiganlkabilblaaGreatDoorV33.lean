import Derived.Test.YtiganlkabilblaaGreatDoorV32
import Derived.Test.YtiganlkabilblaaGreatDoorV18
import Derived.Test.YtiganlkabilblaaGreatDoorV03
import Derived.Shelf.Strings.OnBuilder
import Derived.BigQuiet
import Derived.Test.YtiganlkabilblaaGreatDoorV04
import Derived.Shelf.Strings.BuilderK
import Derived.Deep.RegionHeld
import Derived.Test.YtiganlkabilblaaGreatDoorV27
set_option linter.all false
set_option maxHeartbeats 64000000
set_option maxRecDepth 100000
namespace Go.Proofs.YtiganlkabilblaaGreatDoor
open Go.RowKit
attribute [local go_sem ↓] Go.wp_at_zero Go.wp_at_succ
theorem zcn {F:REv} {j:Nat}:∀ {c:Nat} {o:Option Nat} {k:Nat} {v:Option Nat},Zf F j c o k=some v→∃ e,v=some e
 | 0,_,_,_,h=>by simp[Zf] at h
 | c+1,none,k,v,h=>by simp[Zf] at h;exact⟨k,h.symm⟩
 | c+1,some x,k,v,h=>by
  simp only[Zf] at h
  split at h
  ·cases h
  ·exact zcn h
theorem JN:zF none = -1:=rfl
theorem QI (e:Nat):zF (some e)=(e:Int):=rfl
structure Yv (w:World) (w0:World) (tb eb ec:Nat) (vx vr:Value) (ps:List (Thk.RE × Value × Value)) (rs:List (Thk.z7 × Nat)) (s:ByteArray) (rbs:List Nat) (f p0 ee:Nat) (O:Obj) (c:Nat) (o:Option Nat) (kk:Nat) (wr:World):Prop where
 rep:Zf (evS ps rs s f) p0 c o kk=some (some ee)
 st:Stt w0 tb eb ec vx vr ps rs s rbs wr
 kp:KpM rbs w.heap.size w wr
 own:wr.heap[w.heap.size]? = some O
 le:kk≤s.size
 lo:∀ x,o=some x→x≤s.size
theorem zjo {w0:World} {B gb tb eb ec:Nat} {vx vr:Value} {ps:List (Thk.RE × Value × Value)} {rs:List (Thk.z7 × Nat)} {s:ByteArray} {rbs:List Nat} (hE:Env w0 B gb vx vr ps rs s rbs) (f:Nat) (hT:JM w0 tb eb ec vx vr ps rs s rbs f) (w:World) (i k:Nat) (e:Thk.RE) (n v:Option Nat) (h:Stt w0 tb eb ec vx vr ps rs s rbs w) (hk:k≤s.size) (hx:(zK ps)[i]? = some e) (hok:okE (zj rs) e=true) (hkd:e.kind=8∨e.kind=9) (hn:evS ps rs s f (e.parts.headD 0) k=some n) (hv:(if e.kind=9∧n=none then some none else Zf (evS ps rs s f) (e.parts.headD 0) f n k)=some v) :
  Calls Tryz.prog 148 #[.pointer (some ⟨tb,0,none⟩),.int .i64 i,.int .i64 k] w fun e' w'=>e' = .returned (.int .i64 (zF v))∧Stt w0 tb eb ec vx vr ps rs s rbs w'∧KpM rbs w.heap.size w w':=by
 obtain⟨xg,xc,ia,ic,pa,pc,hi,rfl,hxl,c0,c1,c2,c3,c4,hpn,hpc,hit,hil,_,hp1,hkn⟩:=h.exq hE hx hok
 obtain⟨htl,hsz,hold,q⟩:=h.cells
 have hpl:=hE.ple
 have hsl:=hE.sle
 have hil':(i:Int)<ps.length:=by omega
 obtain⟨p0,hp0⟩:=hp1 (by omega)
 obtain⟨pg,hpa,hpg,hpcell⟩:=hpc 0 (by rw[hp0];simp)
 subst hpa
 have hpcell2:w.cell? ⟨pg,0,none⟩=some (.int .i64 p0):=by
  rw[World.cell?_of_block (a:=⟨pg,0,none⟩) (hold pg hpg),hpcell]
  simp[hp0]
 have hpcell0:w0.cell? ⟨pg,0,none⟩=some (.int .i64 p0):=by
  rw[hpcell]
  simp[hp0]
 have hpg2:pg<w.heap.size:=by omega
 rw[hp0] at hn c4 hv
 simp only[List.headD_cons,List.length_singleton] at hn c4 hv
 have hle:∀ x,n=some x→x≤s.size:=by
  intro x hnx
  subst hnx
  exact (JO _ _ _ _ hn (show k≤s.data.toList.length from hk)).2
 have htry:=fun (O:Obj)=>hT (w.alloc O) p0 k n (h.below (zc w O)) hk hn
 have HTR:=z6 htry
 have HTT:=z6 hT
 have HF:=z6 h.fresh
 have HPC:=z6 hpcell0
 have HV:=z6 hv
 have q0:w.cell? ⟨tb,0,none⟩=some (.slice (some ⟨xg,0,none⟩) ps.length xc):=q 0
 clear hok hit hpc h hx hE hkn htry hT hn q hold hpcell hp0 hp1 hpcell0 hv
 generalize e.items.length=il at *
 generalize rfE (zj rs) e 0=z at *
 generalize e.text=tx at *
 generalize e.kind=K at *
 by_cases h9:K=9∧n=none
 ·obtain⟨rfl,rfl⟩:=h9
  have hv0:v=none:=by have:=HV.out;simpa using this.symm
  subst hv0
  simp only[JN] at *
  go_enter Tryz.func148,Tryz.ntmps148
  go_wp2_with fail
  refine (HTR.out _).mono ?_
  rintro _ w1 ⟨rfl,hs1,hk1⟩
  have ho:=hk1.own HF.out
  have qo:=z8 ho
  have lo:=za ho
  have HS1:=z6 hs1
  have HK1:=z6 hk1.alloc
  clear hs1 hk1 ho
  go_wp2_with fail
  go_ret
  exact⟨rfl,HS1.out,HK1.out⟩
 ·have hv1:=HV.out
  rw[if_neg h9] at hv1
  obtain⟨ee,rfl⟩:=zcn hv1
  have HV1:=z6 hv1
  have hgo:K=8∨(K=9∧∃ x,n=some x):=by
   rcases hkd with h8 | h8
   ·exact .inl h8
   ·refine .inr ⟨h8,?_⟩
    cases n with
    | none=>exact absurd ⟨h8,rfl⟩ h9
    | some x=>exact⟨x,rfl⟩
  simp only[QI]
  clear hv1 HV h9 hkd
  have hgo2:(K=8∧n=none)∨(K=8∧∃ x,n=some x)∨(K=9∧∃ x,n=some x):=by
   rcases hgo with h8 | h8
   ·cases n with
    | none=>exact .inl ⟨h8,rfl⟩
    | some x=>exact .inr (.inl ⟨h8,x,rfl⟩)
   ·exact .inr (.inr h8)
  clear hgo
  rcases hgo2 with ⟨rfl,rfl⟩ | ⟨rfl,x0,rfl⟩ | ⟨rfl,x0,rfl⟩
  ·skip
   go_enter Tryz.func148,Tryz.ntmps148
   go_wp2_with fail
   refine (HTR.out _).mono ?_
   rintro _ w1 ⟨rfl,hs1,hk1⟩
   have ho:=hk1.own HF.out
   have qo:=z8 ho
   have lo:=za ho
   have HS0:Hid (Yv w w0 tb eb ec (.slice (some ⟨xg,0,none⟩) ps.length xc) vr ps rs s rbs f p0 ee (Obj.cells #[.int .i64 8,.slice ia il ic,.string ⟨tx.toArray⟩,.int .i64 z,.slice (some ⟨pg,0,none⟩) 1 pc] 149 (0,0)) f none k w1):=⟨HV1.out,hs1,hk1.alloc,ho,hk,hle⟩
   clear hs1 hk1 ho
   simp only[JN]
   go_wp2_with fail
   go_loopg [2,11] f (fun m va vn wr=>∃ (c:Nat) (o:Option Nat) (kk:Nat),m=c∧va = .int .i64 kk∧vn = .int .i64 (zF o)∧Hid (Yv w w0 tb eb ec (.slice (some ⟨xg,0,none⟩) ps.length xc) vr ps rs s rbs f p0 ee (Obj.cells #[.int .i64 8,.slice ia il ic,.string ⟨tx.toArray⟩,.int .i64 z,.slice (some ⟨pg,0,none⟩) 1 pc] 149 (0,0)) c o kk wr))
   case atStart=>exact⟨f,none,k,rfl,rfl,rfl,HS0⟩
   case round=>
    obtain⟨c,o,kk,hmc,rfl,rfl,HI⟩:=hrel
    cases c with
    | zero=>have:=HI.out.rep;simp[Zf] at this
    | succ c=>
     obtain⟨htl2,hsz2,hold2,_⟩:=HI.out.st.cells
     have qo2:=z8 HI.out.own
     have lo2:=za HI.out.own
     cases o with
     | none=>
      have hee:ee=kk:=by
       have hr:=HI.out.rep
       simp[Zf] at hr
       exact hr.symm
      subst hee
      simp only[JN]
      go_wp2_with fail
      go_ret
      exact⟨rfl,HI.out.st,HI.out.kp⟩
     | some x=>
      have hxle:=HI.out.lo x rfl
      have hx1:(0:Int)≤(x:Int):=by omega
      have hr:=HI.out.rep
      simp only[Zf] at hr
      obtain⟨n2,hn2,hr2⟩:∃ n2,evS ps rs s f p0 x=some n2∧Zf (evS ps rs s f) p0 c n2 x=some (some ee):=by
       cases hF:evS ps rs s f p0 x with
       | none=>rw[hF] at hr;cases hr
       | some n2=>rw[hF] at hr;exact⟨n2,rfl,hr⟩
      have htry2:=HTT.out wr p0 x n2 HI.out.st hxle hn2
      have HR2:=z6 hr2
      have HN2:=z6 hn2
      have hpc2:wr.cell? ⟨pg,0,none⟩=some (.int .i64 p0):=by
       rw[World.cell?_of_block (a:=⟨pg,0,none⟩) (hold2 pg hpg)];exact HPC.out
      have hpg3:pg<wr.heap.size:=by omega
      simp only[QI]
      clear hr hr2 hn2 hold2
      go_wp2_with fail
      refine htry2.mono ?_
      rintro _ w3 ⟨rfl,hs3,hk3⟩
      have HN:Hid (Yv w w0 tb eb ec (.slice (some ⟨xg,0,none⟩) ps.length xc) vr ps rs s rbs f p0 ee (Obj.cells #[.int .i64 8,.slice ia il ic,.string ⟨tx.toArray⟩,.int .i64 z,.slice (some ⟨pg,0,none⟩) 1 pc] 149 (0,0)) c n2 x w3):=by
       refine⟨HR2.out,hs3,KpM.go HI.out.kp hk3,?_,hxle,?_⟩
       ·rw[hk3.block _ lo2 (fun hb=>by have:=HF.out _ hb;omega)];exact HI.out.own
       ·intro y hy
        subst hy
        exact (JO _ _ _ _ HN2.out (show x≤s.data.toList.length from hxle)).2
      clear htry2 hs3 hk3
      go_wp2_with fail
      go_roundg c
      case measure=>omega
      case rel=>exact⟨c,n2,x,rfl,rfl,rfl,HN⟩
  ·skip
   go_enter Tryz.func148,Tryz.ntmps148
   go_wp2_with fail
   refine (HTR.out _).mono ?_
   rintro _ w1 ⟨rfl,hs1,hk1⟩
   have ho:=hk1.own HF.out
   have qo:=z8 ho
   have lo:=za ho
   have HS0:Hid (Yv w w0 tb eb ec (.slice (some ⟨xg,0,none⟩) ps.length xc) vr ps rs s rbs f p0 ee (Obj.cells #[.int .i64 8,.slice ia il ic,.string ⟨tx.toArray⟩,.int .i64 z,.slice (some ⟨pg,0,none⟩) 1 pc] 149 (0,0)) f (some x0) k w1):=⟨HV1.out,hs1,hk1.alloc,ho,hk,hle⟩
   clear hs1 hk1 ho
   have hx0:¬ (x0:Int)<0:=by omega
   have hx0b:decide ((x0:Int)<0)=false:=by simp
   simp only[QI]
   go_wp2_with fail
   go_loopg [2,11] f (fun m va vn wr=>∃ (c:Nat) (o:Option Nat) (kk:Nat),m=c∧va = .int .i64 kk∧vn = .int .i64 (zF o)∧Hid (Yv w w0 tb eb ec (.slice (some ⟨xg,0,none⟩) ps.length xc) vr ps rs s rbs f p0 ee (Obj.cells #[.int .i64 8,.slice ia il ic,.string ⟨tx.toArray⟩,.int .i64 z,.slice (some ⟨pg,0,none⟩) 1 pc] 149 (0,0)) c o kk wr))
   case atStart=>exact⟨f,(some x0),k,rfl,rfl,rfl,HS0⟩
   case round=>
    obtain⟨c,o,kk,hmc,rfl,rfl,HI⟩:=hrel
    cases c with
    | zero=>have:=HI.out.rep;simp[Zf] at this
    | succ c=>
     obtain⟨htl2,hsz2,hold2,_⟩:=HI.out.st.cells
     have qo2:=z8 HI.out.own
     have lo2:=za HI.out.own
     cases o with
     | none=>
      have hee:ee=kk:=by
       have hr:=HI.out.rep
       simp[Zf] at hr
       exact hr.symm
      subst hee
      simp only[JN]
      go_wp2_with fail
      go_ret
      exact⟨rfl,HI.out.st,HI.out.kp⟩
     | some x=>
      have hxle:=HI.out.lo x rfl
      have hx1:(0:Int)≤(x:Int):=by omega
      have hr:=HI.out.rep
      simp only[Zf] at hr
      obtain⟨n2,hn2,hr2⟩:∃ n2,evS ps rs s f p0 x=some n2∧Zf (evS ps rs s f) p0 c n2 x=some (some ee):=by
       cases hF:evS ps rs s f p0 x with
       | none=>rw[hF] at hr;cases hr
       | some n2=>rw[hF] at hr;exact⟨n2,rfl,hr⟩
      have htry2:=HTT.out wr p0 x n2 HI.out.st hxle hn2
      have HR2:=z6 hr2
      have HN2:=z6 hn2
      have hpc2:wr.cell? ⟨pg,0,none⟩=some (.int .i64 p0):=by
       rw[World.cell?_of_block (a:=⟨pg,0,none⟩) (hold2 pg hpg)];exact HPC.out
      have hpg3:pg<wr.heap.size:=by omega
      simp only[QI]
      clear hr hr2 hn2 hold2
      go_wp2_with fail
      refine htry2.mono ?_
      rintro _ w3 ⟨rfl,hs3,hk3⟩
      have HN:Hid (Yv w w0 tb eb ec (.slice (some ⟨xg,0,none⟩) ps.length xc) vr ps rs s rbs f p0 ee (Obj.cells #[.int .i64 8,.slice ia il ic,.string ⟨tx.toArray⟩,.int .i64 z,.slice (some ⟨pg,0,none⟩) 1 pc] 149 (0,0)) c n2 x w3):=by
       refine⟨HR2.out,hs3,KpM.go HI.out.kp hk3,?_,hxle,?_⟩
       ·rw[hk3.block _ lo2 (fun hb=>by have:=HF.out _ hb;omega)];exact HI.out.own
       ·intro y hy
        subst hy
        exact (JO _ _ _ _ HN2.out (show x≤s.data.toList.length from hxle)).2
      clear htry2 hs3 hk3
      go_wp2_with fail
      go_roundg c
      case measure=>omega
      case rel=>exact⟨c,n2,x,rfl,rfl,rfl,HN⟩
  ·skip
   go_enter Tryz.func148,Tryz.ntmps148
   go_wp2_with fail
   refine (HTR.out _).mono ?_
   rintro _ w1 ⟨rfl,hs1,hk1⟩
   have ho:=hk1.own HF.out
   have qo:=z8 ho
   have lo:=za ho
   have HS0:Hid (Yv w w0 tb eb ec (.slice (some ⟨xg,0,none⟩) ps.length xc) vr ps rs s rbs f p0 ee (Obj.cells #[.int .i64 9,.slice ia il ic,.string ⟨tx.toArray⟩,.int .i64 z,.slice (some ⟨pg,0,none⟩) 1 pc] 149 (0,0)) f (some x0) k w1):=⟨HV1.out,hs1,hk1.alloc,ho,hk,hle⟩
   clear hs1 hk1 ho
   have hx0:¬ (x0:Int)<0:=by omega
   have hx0b:decide ((x0:Int)<0)=false:=by simp
   simp only[QI]
   go_wp2_with fail
   go_loopg [2,11] f (fun m va vn wr=>∃ (c:Nat) (o:Option Nat) (kk:Nat),m=c∧va = .int .i64 kk∧vn = .int .i64 (zF o)∧Hid (Yv w w0 tb eb ec (.slice (some ⟨xg,0,none⟩) ps.length xc) vr ps rs s rbs f p0 ee (Obj.cells #[.int .i64 9,.slice ia il ic,.string ⟨tx.toArray⟩,.int .i64 z,.slice (some ⟨pg,0,none⟩) 1 pc] 149 (0,0)) c o kk wr))
   case atStart=>exact⟨f,(some x0),k,rfl,rfl,rfl,HS0⟩
   case round=>
    obtain⟨c,o,kk,hmc,rfl,rfl,HI⟩:=hrel
    cases c with
    | zero=>have:=HI.out.rep;simp[Zf] at this
    | succ c=>
     obtain⟨htl2,hsz2,hold2,_⟩:=HI.out.st.cells
     have qo2:=z8 HI.out.own
     have lo2:=za HI.out.own
     cases o with
     | none=>
      have hee:ee=kk:=by
       have hr:=HI.out.rep
       simp[Zf] at hr
       exact hr.symm
      subst hee
      simp only[JN]
      go_wp2_with fail
      go_ret
      exact⟨rfl,HI.out.st,HI.out.kp⟩
     | some x=>
      have hxle:=HI.out.lo x rfl
      have hx1:(0:Int)≤(x:Int):=by omega
      have hr:=HI.out.rep
      simp only[Zf] at hr
      obtain⟨n2,hn2,hr2⟩:∃ n2,evS ps rs s f p0 x=some n2∧Zf (evS ps rs s f) p0 c n2 x=some (some ee):=by
       cases hF:evS ps rs s f p0 x with
       | none=>rw[hF] at hr;cases hr
       | some n2=>rw[hF] at hr;exact⟨n2,rfl,hr⟩
      have htry2:=HTT.out wr p0 x n2 HI.out.st hxle hn2
      have HR2:=z6 hr2
      have HN2:=z6 hn2
      have hpc2:wr.cell? ⟨pg,0,none⟩=some (.int .i64 p0):=by
       rw[World.cell?_of_block (a:=⟨pg,0,none⟩) (hold2 pg hpg)];exact HPC.out
      have hpg3:pg<wr.heap.size:=by omega
      simp only[QI]
      clear hr hr2 hn2 hold2
      go_wp2_with fail
      refine htry2.mono ?_
      rintro _ w3 ⟨rfl,hs3,hk3⟩
      have HN:Hid (Yv w w0 tb eb ec (.slice (some ⟨xg,0,none⟩) ps.length xc) vr ps rs s rbs f p0 ee (Obj.cells #[.int .i64 9,.slice ia il ic,.string ⟨tx.toArray⟩,.int .i64 z,.slice (some ⟨pg,0,none⟩) 1 pc] 149 (0,0)) c n2 x w3):=by
       refine⟨HR2.out,hs3,KpM.go HI.out.kp hk3,?_,hxle,?_⟩
       ·rw[hk3.block _ lo2 (fun hb=>by have:=HF.out _ hb;omega)];exact HI.out.own
       ·intro y hy
        subst hy
        exact (JO _ _ _ _ HN2.out (show x≤s.data.toList.length from hxle)).2
      clear htry2 hs3 hk3
      go_wp2_with fail
      go_roundg c
      case measure=>omega
      case rel=>exact⟨c,n2,x,rfl,rfl,rfl,HN⟩
structure QG (w:World) (w0:World) (tb eb ec:Nat) (vx vr:Value) (ps:List (Thk.RE × Value × Value)) (rs:List (Thk.z7 × Nat)) (s:ByteArray) (rbs:List Nat) (f:Nat) (parts:List Nat) (v:Option Nat) (O:Obj) (j:Nat) (o:Option Nat) (wr:World):Prop where
 sq:match o with
  | none=>v=none
  | some x=>Jb (evS ps rs s f) (parts.drop j) x=some v∧x≤s.size
 st:Stt w0 tb eb ec vx vr ps rs s rbs wr
 kp:KpM rbs w.heap.size w wr
 own:wr.heap[w.heap.size]? = some O
structure zaF (w:World) (w0:World) (tb eb ec:Nat) (vx vr:Value) (ps:List (Thk.RE × Value × Value)) (rs:List (Thk.z7 × Nat)) (s:ByteArray) (rbs:List Nat) (f:Nat) (parts:List Nat) (k:Nat) (v:Option Nat) (O:Obj) (j:Nat) (wr:World):Prop where
 ch:chR (evS ps rs s f) (parts.drop j) k=some v
 st:Stt w0 tb eb ec vx vr ps rs s rbs wr
 kp:KpM rbs w.heap.size w wr
 own:wr.heap[w.heap.size]? = some O
theorem zjq {w0:World} {B gb tb eb ec:Nat} {vx vr:Value} {ps:List (Thk.RE × Value × Value)} {rs:List (Thk.z7 × Nat)} {s:ByteArray} {rbs:List Nat} (hE:Env w0 B gb vx vr ps rs s rbs) (f:Nat) (hT:JM w0 tb eb ec vx vr ps rs s rbs f) (w:World) (i k:Nat) (e:Thk.RE) (v:Option Nat) (h:Stt w0 tb eb ec vx vr ps rs s rbs w) (hk:k≤s.size) (hx:(zK ps)[i]? = some e) (hok:okE (zj rs) e=true) (hkd:e.kind=5) (hv:Jb (evS ps rs s f) e.parts k=some v) :
  Calls Tryz.prog 148 #[.pointer (some ⟨tb,0,none⟩),.int .i64 i,.int .i64 k] w fun e' w'=>e' = .returned (.int .i64 (zF v))∧Stt w0 tb eb ec vx vr ps rs s rbs w'∧KpM rbs w.heap.size w w':=by
 obtain⟨xg,xc,ia,ic,pa,pc,hi,rfl,hxl,c0,c1,c2,c3,c4,hpn,hpc,hit,hil,_,hp1,hkn⟩:=h.exq hE hx hok
 obtain⟨htl,hsz,hold,q⟩:=h.cells
 have hpl:=hE.ple
 have hsl:=hE.sle
 have hil':(i:Int)<ps.length:=by omega
 have HTT:=z6 hT
 have HF:=z6 h.fresh
 have HPC:=z6 hpc
 have q0:w.cell? ⟨tb,0,none⟩=some (.slice (some ⟨xg,0,none⟩) ps.length xc):=q 0
 rw[hkd] at c0
 obtain⟨parts,hparts⟩:∃ parts,parts=e.parts:=⟨_,rfl⟩
 rw[← hparts] at c4 hv hpn
 have HPC2:Hid (∀ j (hj:j<parts.length),∃ pg,pa=some ⟨pg,0,none⟩∧pg<w0.heap.size∧w0.cell? ⟨pg,j,none⟩=some (.int .i64 parts[j])):=by rw[hparts];exact hpc
 clear hpc HPC hit hkn hT q hold hkd hparts
 generalize e.items.length=il at *
 generalize rfE (zj rs) e 0=z at *
 generalize e.text=tx at *
 have HS0:Hid (QG w w0 tb eb ec (.slice (some ⟨xg,0,none⟩) ps.length xc) vr ps rs s rbs f parts v (Obj.cells #[.int .i64 5,.slice ia il ic,.string ⟨tx.toArray⟩,.int .i64 z,.slice pa parts.length pc] 149 (0,0)) 0 (some k) (w.alloc (Obj.cells #[.int .i64 5,.slice ia il ic,.string ⟨tx.toArray⟩,.int .i64 z,.slice pa parts.length pc] 149 (0,0)))):=⟨⟨hv,hk⟩,h.below (zc _ _),KpM.of_below (zc _ _),zk _ _⟩
 clear h hx hE hv hok
 go_enter Tryz.func148,Tryz.ntmps148
 go_wp2_with fail
 go_loopg [2,8] (parts.length) (fun m va vj wr=>∃ (j:Nat) (o:Option Nat),m=parts.length - j∧va = .int .i64 (zF o)∧vj = .int .i64 j∧j≤parts.length∧Hid (QG w w0 tb eb ec (.slice (some ⟨xg,0,none⟩) ps.length xc) vr ps rs s rbs f parts v (Obj.cells #[.int .i64 5,.slice ia il ic,.string ⟨tx.toArray⟩,.int .i64 z,.slice pa parts.length pc] 149 (0,0)) j o wr))
 case atStart=>exact⟨0,some k,by omega,rfl,rfl,by omega,HS0⟩
 case round=>
  obtain⟨j,o,rfl,rfl,rfl,hj,HI⟩:=hrel
  obtain⟨htl2,hsz2,hold2,_⟩:=HI.out.st.cells
  have qo2:=z8 HI.out.own
  have lo2:=za HI.out.own
  by_cases hlt:j<parts.length
  ·have hlt':(j:Int)<parts.length:=by omega
   cases o with
   | none=>
    have hv0:v=none:=HI.out.sq
    subst hv0
    simp only[JN]
    go_wp2_with fail
    go_ret
    exact⟨rfl,HI.out.st,HI.out.kp⟩
   | some x=>
    obtain⟨hsq,hxle⟩:=HI.out.sq
    have hx1:(0:Int)≤(x:Int):=by omega
    obtain⟨pg,rfl,hpg,hcell⟩:=HPC2.out j hlt
    have hcell2:wr.cell? ⟨pg,j,none⟩=some (.int .i64 parts[j]):=by rw[World.cell?_of_block (a:=⟨pg,j,none⟩) (hold2 pg hpg)];exact hcell
    have hpg3:pg<wr.heap.size:=by omega
    rw[List.drop_eq_getElem_cons hlt] at hsq
    simp only[Jb] at hsq
    obtain⟨n2,hn2,hr2⟩:∃ n2,evS ps rs s f parts[j] x=some n2∧(match n2 with | none=>v=none | some y=>Jb (evS ps rs s f) (parts.drop (j+1)) y=some v):=by
     cases hF:evS ps rs s f parts[j] x with
     | none=>rw[hF] at hsq;cases hsq
     | some n2=>
      rw[hF] at hsq
      refine⟨n2,rfl,?_⟩
      cases n2 with
      | none=>exact (Option.some.inj hsq).symm
      | some y=>exact hsq
    have htry2:=HTT.out wr parts[j] x n2 HI.out.st hxle hn2
    have HR2:=z6 hr2
    have HN2:=z6 hn2
    generalize parts[j]=pj at *
    simp only[QI]
    clear hsq hr2 hn2 hold2 hcell
    go_wp2_with fail
    refine htry2.mono ?_
    rintro _ w3 ⟨rfl,hs3,hk3⟩
    have HN:Hid (QG w w0 tb eb ec (.slice (some ⟨xg,0,none⟩) ps.length xc) vr ps rs s rbs f parts v (Obj.cells #[.int .i64 5,.slice ia il ic,.string ⟨tx.toArray⟩,.int .i64 z,.slice (some ⟨pg,0,none⟩) parts.length pc] 149 (0,0)) (j+1) n2 w3):=by
     refine⟨?_,hs3,KpM.go HI.out.kp hk3,?_⟩
     ·cases n2 with
      | none=>exact HR2.out
      | some y=>exact⟨HR2.out,(JO _ _ _ _ HN2.out (show x≤s.data.toList.length from hxle)).2⟩
     ·rw[hk3.block _ lo2 (fun hb=>by have:=HF.out _ hb;omega)];exact HI.out.own
    clear htry2 hs3 hk3
    go_wp2_with fail
    go_roundg (parts.length - (j+1))
    case measure=>omega
    case rel=>exact⟨j+1,n2,rfl,rfl,by go_num,by omega,HN⟩
  ·have hlt':¬ (j:Int)<parts.length:=by omega
   have hltd:decide ((j:Int)<parts.length)=false:=by simpa using hlt'
   have hvo:v=o:=by
    cases o with
    | none=>exact HI.out.sq
    | some x=>
     have:=HI.out.sq.1
     rw[List.drop_of_length_le (by omega)] at this
     exact (Option.some.inj this).symm
   subst hvo
   go_wp2_with fail
   go_ret
   exact⟨rfl,HI.out.st,HI.out.kp⟩
theorem zjn {w0:World} {B gb tb eb ec:Nat} {vx vr:Value} {ps:List (Thk.RE × Value × Value)} {rs:List (Thk.z7 × Nat)} {s:ByteArray} {rbs:List Nat} (hE:Env w0 B gb vx vr ps rs s rbs) (f:Nat) (hT:JM w0 tb eb ec vx vr ps rs s rbs f) (w:World) (i k:Nat) (e:Thk.RE) (v:Option Nat) (h:Stt w0 tb eb ec vx vr ps rs s rbs w) (hk:k≤s.size) (hx:(zK ps)[i]? = some e) (hok:okE (zj rs) e=true) (hkd:e.kind=6) (hv:chR (evS ps rs s f) e.parts k=some v) :
  Calls Tryz.prog 148 #[.pointer (some ⟨tb,0,none⟩),.int .i64 i,.int .i64 k] w fun e' w'=>e' = .returned (.int .i64 (zF v))∧Stt w0 tb eb ec vx vr ps rs s rbs w'∧KpM rbs w.heap.size w w':=by
 obtain⟨xg,xc,ia,ic,pa,pc,hi,rfl,hxl,c0,c1,c2,c3,c4,hpn,hpc,hit,hil,_,hp1,hkn⟩:=h.exq hE hx hok
 obtain⟨htl,hsz,hold,q⟩:=h.cells
 have hpl:=hE.ple
 have hsl:=hE.sle
 have hil':(i:Int)<ps.length:=by omega
 have HTT:=z6 hT
 have HF:=z6 h.fresh
 have HPC:=z6 hpc
 have q0:w.cell? ⟨tb,0,none⟩=some (.slice (some ⟨xg,0,none⟩) ps.length xc):=q 0
 rw[hkd] at c0
 obtain⟨parts,hparts⟩:∃ parts,parts=e.parts:=⟨_,rfl⟩
 rw[← hparts] at c4 hv hpn
 have HPC2:Hid (∀ j (hj:j<parts.length),∃ pg,pa=some ⟨pg,0,none⟩∧pg<w0.heap.size∧w0.cell? ⟨pg,j,none⟩=some (.int .i64 parts[j])):=by rw[hparts];exact hpc
 clear hpc HPC hit hkn hT q hold hkd hparts
 generalize e.items.length=il at *
 generalize rfE (zj rs) e 0=z at *
 generalize e.text=tx at *
 have HS0:Hid (zaF w w0 tb eb ec (.slice (some ⟨xg,0,none⟩) ps.length xc) vr ps rs s rbs f parts k v (Obj.cells #[.int .i64 6,.slice ia il ic,.string ⟨tx.toArray⟩,.int .i64 z,.slice pa parts.length pc] 149 (0,0)) 0 (w.alloc (Obj.cells #[.int .i64 6,.slice ia il ic,.string ⟨tx.toArray⟩,.int .i64 z,.slice pa parts.length pc] 149 (0,0)))):=⟨hv,h.below (zc _ _),KpM.of_below (zc _ _),zk _ _⟩
 clear h hx hE hv hok
 go_enter Tryz.func148,Tryz.ntmps148
 go_wp2_with fail
 go_loopg [9] (parts.length) (fun m vj wr=>∃ (j:Nat),m=parts.length - j∧vj = .int .i64 j∧j≤parts.length∧Hid (zaF w w0 tb eb ec (.slice (some ⟨xg,0,none⟩) ps.length xc) vr ps rs s rbs f parts k v (Obj.cells #[.int .i64 6,.slice ia il ic,.string ⟨tx.toArray⟩,.int .i64 z,.slice pa parts.length pc] 149 (0,0)) j wr))
 case atStart=>exact⟨0,by omega,rfl,by omega,HS0⟩
 case round=>
  obtain⟨j,rfl,rfl,hj,HI⟩:=hrel
  obtain⟨htl2,hsz2,hold2,_⟩:=HI.out.st.cells
  have qo2:=z8 HI.out.own
  have lo2:=za HI.out.own
  by_cases hlt:j<parts.length
  ·have hlt':(j:Int)<parts.length:=by omega
   have hch:=HI.out.ch
   obtain⟨pg,rfl,hpg,hcell⟩:=HPC2.out j hlt
   have hcell2:wr.cell? ⟨pg,j,none⟩=some (.int .i64 parts[j]):=by rw[World.cell?_of_block (a:=⟨pg,j,none⟩) (hold2 pg hpg)];exact hcell
   have hpg3:pg<wr.heap.size:=by omega
   rw[List.drop_eq_getElem_cons hlt] at hch
   simp only[chR] at hch
   obtain⟨n2,hn2,hr2⟩:∃ n2,evS ps rs s f parts[j] k=some n2∧(match n2 with | some y=>v=some y | none=>chR (evS ps rs s f) (parts.drop (j+1)) k=some v):=by
    cases hF:evS ps rs s f parts[j] k with
    | none=>rw[hF] at hch;cases hch
    | some n2=>
     rw[hF] at hch
     refine⟨n2,rfl,?_⟩
     cases n2 with
     | none=>exact hch
     | some y=>exact (Option.some.inj hch).symm
   have htry2:=HTT.out wr parts[j] k n2 HI.out.st hk hn2
   have HR2:=z6 hr2
   generalize parts[j]=pj at *
   clear hch hr2 hn2 hold2 hcell
   go_wp2_with fail
   refine htry2.mono ?_
   rintro _ w3 ⟨rfl,hs3,hk3⟩
   have hown3:w3.heap[w.heap.size]? = some (Obj.cells #[.int .i64 6,.slice ia il ic,.string ⟨tx.toArray⟩,.int .i64 z,.slice (some ⟨pg,0,none⟩) parts.length pc] 149 (0,0)):=by
    rw[hk3.block _ lo2 (fun hb=>by have:=HF.out _ hb;omega)];exact HI.out.own
   have HS3:=z6 hs3
   have HK3:=z6 (KpM.go HI.out.kp hk3)
   have HO3:=z6 hown3
   clear htry2 hs3 hk3 hown3
   cases n2 with
   | none=>
    simp only[JN]
    go_wp2_with fail
    go_roundg (parts.length - (j+1))
    case measure=>omega
    case rel=>exact⟨j+1,rfl,by go_num,by omega,HR2.out,HS3.out,HK3.out,HO3.out⟩
   | some y=>
    have hvy:v=some y:=HR2.out
    subst hvy
    have hy1:(0:Int)≤(y:Int):=by omega
    simp only[QI]
    go_wp2_with fail
    go_ret
    exact⟨rfl,HS3.out,HK3.out⟩
  ·have hlt':¬ (j:Int)<parts.length:=by omega
   have hvo:v=none:=by
    have:=HI.out.ch
    rw[List.drop_of_length_le (by omega)] at this
    exact (Option.some.inj this).symm
   subst hvo
   go_wp2_with fail
   go_ret
   exact⟨rfl,HI.out.st,HI.out.kp⟩
theorem zjl {w0:World} {B gb tb eb ec:Nat} {vx vr:Value} {ps:List (Thk.RE × Value × Value)} {rs:List (Thk.z7 × Nat)} {s:ByteArray} {rbs:List Nat} (hE:Env w0 B gb vx vr ps rs s rbs) (f:Nat) (hT:JM w0 tb eb ec vx vr ps rs s rbs f):zaU w0 tb eb ec vx vr ps rs s rbs (f+1):=by
 intro w i k v h hk hv
 simp only[evS,evR] at hv
 cases hx:(zK ps)[i]? with
 | none=>rw[hx] at hv;cases hv
 | some e=>
  rw[hx] at hv
  simp only[] at hv
  split at hv
  rotate_left
  ·cases hv
  rename_i hok
  have hke : 1≤e.kind∧e.kind≤11:=by
   simp only[okE,Bool.and_eq_true,decide_eq_true_eq] at hok
   exact hok.1.1
  unfold QH at hv
  by_cases h3:e.kind≤3
  ·rw[if_pos h3] at hv
   have:=zjm hE w i k e h hk hx hok (by omega)
   rw[Option.some.inj hv] at this
   exact this
  rw[if_neg h3] at hv
  by_cases h4:e.kind=4
  ·rw[if_pos h4] at hv
   exact zjp hE f hT w i k e v h hk hx hok h4 hv
  rw[if_neg h4] at hv
  by_cases h5:e.kind=5
  ·rw[if_pos h5] at hv
   exact zjq hE f hT w i k e v h hk hx hok h5 hv
  rw[if_neg h5] at hv
  by_cases h6:e.kind=6
  ·rw[if_pos h6] at hv
   exact zjn hE f hT w i k e v h hk hx hok h6 hv
  rw[if_neg h6] at hv
  unfold Jq at hv
  cases hn:evS ps rs s f (e.parts.headD 0) k with
  | none=>rw[show evR (zK ps) (zj rs) (Zp rs) s.data.toList f (e.parts.headD 0) k=none from hn] at hv;cases hv
  | some n=>
   rw[show evR (zK ps) (zj rs) (Zp rs) s.data.toList f (e.parts.headD 0) k=some n from hn] at hv
   simp only[] at hv
   by_cases h7:e.kind=7∨e.kind=10∨e.kind=11
   ·have:=zjr hE f hT w i k e n h hk hx hok h7 hn
    have hveq:(if e.kind=7 then some (n.getD k) else if e.kind=10 then (if n.isSome then some k else none) else (if n.isSome then none else some k))=v:=by
     rcases h7 with h7 | h7 | h7
     ·rw[if_pos h7] at hv ⊢;exact Option.some.inj hv
     ·rw[if_neg (by omega),if_pos h7] at hv ⊢;exact Option.some.inj hv
     ·rw[if_neg (by omega),if_neg (by omega),if_pos h7] at hv
      rw[if_neg (by omega),if_neg (by omega)];exact Option.some.inj hv
    rw[hveq] at this
    exact this
   ·rw[if_neg (by omega),if_neg (by omega),if_neg (by omega)] at hv
    exact zjo hE f hT w i k e n v h hk hx hok (by omega) hn hv
theorem zjs {w0:World} {B gb tb eb ec:Nat} {vx vr:Value} {ps:List (Thk.RE × Value × Value)} {rs:List (Thk.z7 × Nat)} {s:ByteArray} {rbs:List Nat} (hE:Env w0 B gb vx vr ps rs s rbs) (f:Nat) (hT:zaU w0 tb eb ec vx vr ps rs s rbs f):JM w0 tb eb ec vx vr ps rs s rbs f:=by
 intro w i k v h hk hv
 have hi:i<ps.length:=by
  cases f with
  | zero=>simp[evS,evR] at hv
  | succ f=>
   simp only[evS,evR] at hv
   cases hx:(zK ps)[i]? with
   | none=>rw[hx] at hv;cases hv
   | some e=>have:=(List.getElem?_eq_some_iff.1 hx).1;simpa using this
 have hlen:=hE.len
 have hpl:=hE.ple
 have hsl:=hE.sle
 have hir:i<rbs.length:=by omega
 have h':=h
 obtain⟨M,hA,hS⟩:=h
 have hMk:=hS i k (show k≤s.data.toList.length from hk)
 have q:=z8 hA.blk
 have q3:w.cell? ⟨tb,3,none⟩=some (.slice (some ⟨eb,0,none⟩) rbs.length ec):=q 3
 have htl:=zd hA.blk
 have helt:=hA.elt
 have e1:=hA.ends i hir
 have r1:=hA.at i k hir hk
 have rlt:=zd (hA.row i hir)
 have hil':(i:Int)<rbs.length:=by omega
 have hkl':(k:Int)<(s.size:Int)+1:=by omega
 have hkl2:(k:Int)<((s.size+1:Nat):Int):=by omega
 by_cases hm:M i k = -2
 ·rw[hm] at r1
  have htd:=hT w i k v h' hk hv
  have HV:=z6 hv
  have HTD:=z6 htd
  clear hT hE hv htd hS h' hA hm hMk q
  generalize hb0:rbs[i]=rb at *
  go_enter Tryz.func112,Tryz.ntmps112
  go_wp2_with fail
  refine HTD.out.mono ?_
  rintro _ w1 ⟨rfl,hs1,hk1⟩
  obtain⟨M1,hA1,hS1⟩:=hs1
  have q1:w1.cell? ⟨tb,3,none⟩=some (.slice (some ⟨eb,0,none⟩) rbs.length ec):=z8 hA1.blk 3
  have htl1:=zd hA1.blk
  have helt1:=hA1.elt
  have e11:=hA1.ends i hir
  have r11:=hA1.at i k hir hk
  have rlt1:=zd (hA1.row i hir)
  have fz1:w1.frozen? ⟨rbs[i],k,none⟩=false:=zi (hA1.row i hir) k
  have hA2:=hA1.set i k hir (zF v)
  have HS2:Hid (Stt w0 tb eb ec vx vr ps rs s rbs (w1.setCell ⟨rbs[i],k,none⟩ (.int .i64 (zF v)))):=⟨_,hA2,hS1.set HV.out⟩
  have HK2:Hid (KpM rbs w.heap.size w (w1.setCell ⟨rbs[i],k,none⟩ (.int .i64 (zF v)))):=hk1.set (List.getElem_mem hir) _
  have q2:(w1.setCell ⟨rbs[i],k,none⟩ (.int .i64 (zF v))).cell? ⟨tb,3,none⟩=some (.slice (some ⟨eb,0,none⟩) rbs.length ec):=z8 hA2.blk 3
  have e12:=hA2.ends i hir
  have r12:=hA2.at i k hir hk
  simp only[and_self,if_true] at r12
  rw[hb0] at e11 r11 rlt1 fz1 HS2 HK2 q2 e12 r12
  obtain⟨R,hR⟩:∃ R,R=zF v:=⟨_,rfl⟩
  rw[← hR] at HS2 HK2 q2 e12 r12 ⊢
  have HR:=z6 hR
  clear hA1 hA2 hk1 hS1 hR
  go_wp2_with fail
  go_ret
  exact⟨congrArg (fun r=>Ending.returned (Value.int .i64 r)) HR.out,HS2.out,HK2.out⟩
 ·obtain⟨f',v',hv',hM'⟩:=hMk.resolve_left hm
  have hvv:v'=v:=zbw hv' hv
  subst hvv
  rw[hM'] at r1
  have hne:=zeH v'
  have HST:=z6 h'
  clear hT hE hv hv' hS h' hA hm hMk q hM'
  generalize rbs[i]=rb at *
  generalize zF v'=R at *
  have hneb:(R == -2)=false:=by simpa using hne
  go_enter Tryz.func112,Tryz.ntmps112
  go_wp2_with fail
  go_ret
  exact⟨rfl,HST.out,KpM.refl _ _ _⟩
theorem zaC {w0:World} {B gb tb eb ec:Nat} {vx vr:Value} {ps:List (Thk.RE × Value × Value)} {rs:List (Thk.z7 × Nat)} {s:ByteArray} {rbs:List Nat} (hE:Env w0 B gb vx vr ps rs s rbs):∀ f,JM w0 tb eb ec vx vr ps rs s rbs f
 | 0=>by intro w i k v h hk hv;simp[evS,evR] at hv
 | f+1=>zjs hE (f+1) (zjl hE f (zaC hE f))
theorem ze1 {W wr w1 w6:World} {O:Obj} {v:Value} {e:TypeId} {sz n:Nat} {xs:List Value} (hB:Below W.heap.size W wr) (hown:w1.ownsRow W.heap.size e sz v n xs) (h1:Below wr.heap.size wr w1) (hg:(w1.alloc O).grownBy w6 v.ownBlock):Below W.heap.size W w6:=by
 have hs:=hB.size
 have hs1:=h1.size
 have hs2:=hg.size
 simp at hs2
 refine⟨hg.os.trans (h1.os.trans hB.os),hg.tape.trans (h1.tape.trans hB.tape),hg.output.trans (h1.output.trans hB.output),by omega,fun k hk=>?_⟩
 rw[hg.block k (by simp;omega) (fun e=>by have:=(hown.lt k e.symm).1;omega),zm _ _ (by omega),h1.block k (by omega)]
 exact hB.block k hk
theorem Tryz.infoIntsRow:(Tryz.prog.info? 40).map (fun i=>(i.zero,i.size,i.bytes))=some (some (.slice none 0 0),1,24):=by kernel_rfl
theorem Tryz.infoInt':(Tryz.prog.info? 3).map (fun i=>(i.zero,i.size,i.bytes))=some (some (.int .i64 0),1,8):=by kernel_rfl
theorem zgr (n:Nat) (hn:n≤1000000) (w:World):∃ cur:Array Value,cur.size=n∧(Instr.makeSlice 40 (.int .i64 n) (.int .i64 n)).run Tryz.prog w = .ok (.slice (some ⟨w.heap.size,0,none⟩) n n) (w.alloc (.cells cur 3)):=by
 obtain⟨i0,hi,hz0,hz1,hz2⟩:=info_parts Tryz.infoInt'
 refine⟨madeCells (Value.int .i64 0).cells (((n:Nat):Int).toNat * i0.size),?_,?_⟩
 ·rw[size_madeCells,hz1];simp
 ·have h:=run_make (P:=Tryz.prog) w 40 3 i0 _ Tryz.underlying40 hi hz0 .i64 .i64 (n:Int) (n:Int) (by omega) (by omega) (by rw[hz2];omega) (by omega)
  simpa using h
theorem zgs (n:Nat) (hn:n≤100000) (w:World):∃ cur:Array Value,cur.size=n+1∧(Instr.makeSlice 40 (.int .i64 ((n:Int)+1)) (.int .i64 ((n:Int)+1))).run Tryz.prog w = .ok (.slice (some ⟨w.heap.size,0,none⟩) (n+1) (n+1)) (w.alloc (.cells cur 3)):=by
 obtain⟨cur,h1,h2⟩:=zgr (n+1) (by omega) w
 rw[show (((n+1:Nat)):Int)=(n:Int)+1 from by omega] at h2
 exact⟨cur,h1,h2⟩
abbrev UV (n b:Nat):Value:=.slice (some ⟨b,0,none⟩) n n
structure YM (w:World) (vx vr:Value) (s:ByteArray) (rbs:List Nat) (vo:Value) (wr:World):Prop where
 below:Below w.heap.size w wr
 box:wr.heap[w.heap.size]? = some (YB vx vr)
 tr:wr.heap[w.heap.size+1]? = some (.cells #[vx,vr,.string s,vo] 161 (0,0))
 own:wr.ownsRow w.heap.size 40 1 vo rbs.length (rbs.map (UV (s.size+1)))
 row:∀ j (h:j<rbs.length),wr.heap[rbs[j]]? = some (KM (JB (s.size+1) (fun _=>-2)))
 nodup:rbs.Nodup
 ge:∀ b ∈ rbs,w.heap.size+2≤b
structure Kr (n k:Nat) (lb:Nat) (Wm wr:World):Prop where
 row:∃ cur:Array Value,wr.heap[lb]? = some (.cells cur 3 (0,0))∧cur.size=n∧∀ j,j<k→cur[j]? = some (.int .i64 (-2))
 kp:KpM [lb] Wm.heap.size Wm wr
theorem zeR {n lb:Nat} {Wm wr:World} (h:Kr n n lb Wm wr):wr.heap[lb]? = some (KM (JB n (fun _=>-2))):=by
 obtain⟨cur,h1,h2,h3⟩:=h.row
 rw[h1]
 have:cur=((JB n (fun _=>-2)).map (Value.int .i64)).toArray:=by
  apply Array.ext
  ·simp[JB,h2]
  ·intro i hi1 hi2
   have:=h3 i (by omega)
   rw[Array.getElem?_eq_getElem hi1] at this
   simp[JB]
   exact Option.some.inj this
 rw[this]
 rfl
theorem YM.kept {w:World} {vx vr:Value} {s:ByteArray} {rbs:List Nat} {vo:Value} {wo wr:World} (h:YM w vx vr s rbs vo wo) (hb:Below wo.heap.size wo wr):YM w vx vr s rbs vo wr:=by
 have hs:=h.below.size
 exact⟨h.below.trans (hb.mono hs),by rw[hb.block _ (zd h.box)];exact h.box,by rw[hb.block _ (zd h.tr)];exact h.tr,Zv h.own hb,fun j hj=>by rw[hb.block _ (zd (h.row j hj))];exact h.row j hj,h.nodup,h.ge⟩
theorem Kr.below {n k:Nat} {wo Wm wr:World} (hw:Below wo.heap.size wo Wm) (h:Kr n k wo.heap.size Wm wr):Below wo.heap.size wo wr:=by
 have hz:=hw.size
 exact⟨h.kp.os.trans hw.os,h.kp.tape.trans hw.tape,h.kp.output.trans hw.output,Nat.le_trans hz h.kp.size,fun b hb=>(h.kp.block b (by omega) (by simp;omega)).trans (hw.block b hb)⟩
theorem YM.push {w:World} {vx vr:Value} {s:ByteArray} {rbs:List Nat} {vo v':Value} {wr w5:World} {O:Obj} {lb:Nat} (h:YM w vx vr s rbs vo wr) (hrow:wr.heap[lb]? = some (KM (JB (s.size+1) (fun _=>-2)))) (hn:lb ∉ rbs) (hge:w.heap.size+2≤lb)
  (hown:w5.ownsRow w.heap.size 40 1 v' (rbs.length+1) (rbs.map (UV (s.size+1))++[UV (s.size+1) lb])) (hg:(wr.alloc O).grownBy w5 vo.ownBlock) (hat:v'.ownBlock=vo.ownBlock∨v'.ownBlock=some (wr.heap.size+1)) :
  YM w vx vr s (rbs++[lb]) v' (w5.setCell ⟨w.heap.size+1,3,none⟩ v'):=by
 have hs:=h.below.size
 have tlt:=zd h.tr
 have hz:=hg.size
 simp at hz
 have hnt:vo.ownBlock≠some (w.heap.size+1):=zn h.own h.tr (by decide)
 have hnb:vo.ownBlock≠some w.heap.size:=zn h.own h.box (by decide)
 have hnr:∀ b cs,wr.heap[b]? = some (.cells cs 3 (0,0))→vo.ownBlock≠some b:=fun b cs hb=>zn h.own hb (by decide)
 have keep:∀ b o,wr.heap[b]? = some o→vo.ownBlock≠some b→w5.heap[b]? = some o:=by
  intro b o hb hne
  have hbl:=zd hb
  rw[hg.block b (by simp;omega) (fun e=>hne e.symm),zm _ _ hbl]
  exact hb
 have set:∀ b o,w5.heap[b]? = some o→b≠w.heap.size+1→(w5.setCell ⟨w.heap.size+1,3,none⟩ v').heap[b]? = some o:=fun b o hb hne=>by rw[Below.heap_setCell _ _ _ _ hne];exact hb
 have hv't:v'.ownBlock≠some (w.heap.size+1):=by
  rcases hat with e | e
  ·rw[e];exact hnt
  ·rw[e];simp;omega
 refine⟨?_,set _ _ (keep _ _ h.box hnb) (by omega),?_,?_,?_,?_,?_⟩
 ·have hb5:Below w.heap.size w w5:=ze1 h.below h.own (Below.refl _ _) hg
  exact hb5.setCell (p:=⟨w.heap.size+1,3,none⟩) (by show w.heap.size≤w.heap.size+1;omega) _
 ·rw[zo (keep _ _ h.tr hnt)];rfl
 ·have:=zc1 (o:=3) (u:=v') hown hv't
  rw[List.length_append,List.map_append]
  exact this
 ·intro j hj
  rw[List.length_append,List.length_singleton] at hj
  by_cases hjl:j<rbs.length
  ·rw[List.getElem_append_left hjl]
   have hr:=h.row j hjl
   refine set _ _ (keep _ _ hr (hnr _ _ hr)) ?_
   have:=h.ge _ (List.getElem_mem hjl)
   omega
  ·have:j=rbs.length:=by omega
   subst this
   rw[List.getElem_append_right (Nat.le_refl _)]
   simp only[Nat.sub_self,List.getElem_cons_zero]
   exact set _ _ (keep _ _ hrow (hnr _ _ hrow)) (by omega)
 ·rw[List.nodup_append]
  exact⟨h.nodup,by simp,fun a ha b hb=>by simp at hb;subst hb;exact fun e=>hn (e ▸ ha)⟩
 ·intro b hb
  rcases List.mem_append.1 hb with hb | hb
  ·exact h.ge b hb
  ·simp at hb;subst hb;exact hge
theorem zgK (w:World) (xa:Option Addr) (xn xc:Nat) (vr:Value) (ra:Option Addr) (rn rc:Nat) (hvr:vr = .slice ra rn rc) (s:ByteArray) (hs:s.size≤200) (hx:xn≤10000) (hx0 : 0<xn) :
  Calls Tryz.prog 111 #[.agg #[.slice xa xn xc,vr],.string s] w fun e w'=>∃ eb ec rbs,rbs.length=xn∧e = .returned (.pointer (some ⟨w.heap.size+1,0,none⟩))∧Y1 w w' (w.heap.size+1) eb ec (.slice xa xn xc) vr s rbs (fun _ _=>-2)∧Below w.heap.size w w':=by
 subst hvr
 obtain⟨i0,hi0,hz0,hz1,hz2⟩:=info_parts Tryz.infoIntsRow
 have HS0:Hid (YM w (.slice xa xn xc) (.slice ra rn rc) s [] (.slice none 0 0) ((w.alloc (YB (.slice xa xn xc) (.slice ra rn rc))).alloc (.cells #[.slice xa xn xc,.slice ra rn rc,.string s,.slice none 0 0] 161))):=by
  refine⟨(zc _ _).alloc (by simp) _,?_,?_,World.ownsRow_nil _ _ _ _,fun j h=>by simp at h,by simp,fun b h=>by simp at h⟩
  ·rw[zm _ _ (by simp)];exact zk _ _
  ·have:=zk (w.alloc (YB (.slice xa xn xc) (.slice ra rn rc))) (.cells #[.slice xa xn xc,.slice ra rn rc,.string s,.slice none 0 0] 161)
   simpa using this
 go_enter Tryz.func111,Tryz.ntmps111
 go_wp2_with fail
 go_loopg [6] xn (fun m vi wr=>∃ (rbs:List Nat) (vo:Value),m=xn - rbs.length∧vi = .int .i64 rbs.length∧rbs.length≤xn∧Hid (YM w (.slice xa xn xc) (.slice ra rn rc) s rbs vo wr))
 case atStart=>exact⟨[],.slice none 0 0,by simp,rfl,by simp,HS0⟩
 case round=>
  obtain⟨rbs,vo,rfl,rfl,hi,HI⟩:=hrel
  obtain⟨wo,hwo⟩:∃ wo,wo=wr:=⟨_,rfl⟩
  subst hwo
  have qb:=z8 HI.out.box
  have lb0:=za HI.out.box
  have qt:=z8 HI.out.tr
  have lt0:=za HI.out.tr
  obtain⟨oa,oc,hvo⟩:=zl HI.out.own
  subst hvo
  by_cases hlt:rbs.length<xn
  ·have hlt':(rbs.length:Int)<xn:=by omega
   obtain⟨cur,hcs,hmk⟩:=zgs s.size (by omega) wo
   obtain⟨Wm,hWm⟩:∃ Wm,Wm=wo.alloc (.cells cur 3):=⟨_,rfl⟩
   have hWo:Wm.heap[wo.heap.size]? = some (.cells cur 3 (0,0)):=by rw[hWm];exact zk _ _
   have hWs:Wm.heap.size=wo.heap.size+1:=by rw[hWm];simp
   have hWb:Below wo.heap.size wo Wm:=by rw[hWm];exact zc _ _
   have HF0:Hid (Kr (s.size+1) 0 wo.heap.size Wm Wm):=⟨⟨cur,hWo,hcs,fun j hj=>by omega⟩,KpM.refl _ _ _⟩
   have HWB:=z6 hWb
   rw[← hWm] at hmk
   clear hWm hWo hWb
   go_wp2_with fail
   go_loopg [8] (s.size+1) (fun m v wr=>∃ k:Nat,m=s.size+1 - k∧v = .int .i64 k∧k≤s.size+1∧Hid (Kr (s.size+1) k wo.heap.size Wm wr))
   case atStart=>exact⟨0,by omega,rfl,by omega,HF0⟩
   case round=>
    obtain⟨k,rfl,rfl,hk,HK⟩:=hrel
    obtain⟨cu,hcu,hcz,hcn⟩:=HK.out.row
    have hcl:=za hcu
    have hkz:=HK.out.kp.size
    by_cases hkl:k<s.size+1
    ·have hkl':(k:Int)<(s.size:Int)+1:=by omega
     have hkc:k<cu.size:=by omega
     have hce:wr.cell? ⟨wo.heap.size,k,none⟩=some cu[k]:=by rw[z8 hcu];exact Array.getElem?_eq_getElem hkc
     have hfz:wr.frozen? ⟨wo.heap.size,k,none⟩=false:=zi hcu k
     have HN:Hid (Kr (s.size+1) (k+1) wo.heap.size Wm (wr.setCell ⟨wo.heap.size,k,none⟩ (.int .i64 (-2)))):=by
      refine⟨⟨cu.setIfInBounds k (.int .i64 (-2)),zo hcu _,by simpa using hcz,?_⟩,HK.out.kp.set (by simp) _⟩
      intro j hj
      rw[Array.getElem?_setIfInBounds]
      by_cases e:k=j
      ·subst e;simp[hkc]
      ·rw[if_neg e];exact hcn j (by omega)
     clear hcn
     go_wp2_with fail
     go_roundg (s.size+1 - (k+1))
     case measure=>omega
     case rel=>exact⟨k+1,rfl,by go_num,by omega,HN⟩
    ·have hkl':¬ (k:Int)<(s.size:Int)+1:=by omega
     have hke:k=s.size+1:=by omega
     subst hke
     have hrow:=zeR HK.out
     have hbw:=HK.out.below HWB.out
     have hnt:=HI.out.kept hbw
     have qt2:=z8 hnt.tr
     have lt2:=za hnt.tr
     have hown1:=hnt.own
     have hbs:=hbw.size
     have hws:=HI.out.below.size
     have HNT:=z6 hnt
     have HROW:=z6 hrow
     have hnm:wo.heap.size ∉ rbs:=by
      intro hb
      obtain⟨j,hj,he⟩:=List.getElem_of_mem hb
      have:=zd (HI.out.row j hj)
      omega
     clear hcn hcu hrow hnt qt qb
     go_wp2_with (first | (at_builtin;refine wpList_append_own_at _ rfl _ _ 159 rfl (w.heap.size) 40 i0 _ 1 24 Tryz.underlying159 hi0 hz0 hz1 hz2 rfl (by decide) _ _ _ rfl (hown1.alloc _) ⟨wr.heap.size,0,none⟩ 1 1 [UV (s.size+1) wo.heap.size] rfl rfl ?c1 ?c2 ?c3 ?c4 ?c5 ?_))
     case c2=>rfl
     case c3=>unfold maxLen;omega
     case c4=>omega
     case c5=>omega
     intro v' w5 hown' hgrow _ hat
     have HP:=z6 (HNT.out.push HROW.out hnm (by omega) hown' hgrow hat)
     obtain⟨va,vc,hv⟩:=zl hown'
     subst hv
     have hnt5:(Value.slice oa rbs.length oc).ownBlock≠some (w.heap.size+1):=zn hown1 HNT.out.tr (by decide)
     have ht5:w5.heap[w.heap.size+1]? = some (.cells #[.slice xa xn xc,.slice ra rn rc,.string s,.slice oa rbs.length oc] 161 (0,0)):=by
      rw[hgrow.block _ (by simp;omega) (fun e=>hnt5 e.symm),zm _ _ lt2];exact HNT.out.tr
     have q5:=z8 ht5
     have f5:=zi ht5 3
     have l5:=za ht5
     clear hown' hgrow hat hown1 hnt5 ht5
     go_wp2_with fail
     go_roundg (xn - (rbs++[wo.heap.size]).length)
     case measure=>rw[List.length_append,List.length_singleton];omega
     case rel=>exact⟨rbs++[wo.heap.size],_,rfl,by rw[List.length_append,List.length_singleton];go_num,by rw[List.length_append,List.length_singleton];omega,HP⟩
  ·have hlt':¬ (rbs.length:Int)<xn:=by omega
   have hlen:rbs.length=xn:=by omega
   have hpos : 0<rbs.length:=by omega
   obtain⟨eb,heb,hcs,hel⟩:=Jk HI.out.own hpos
   subst heb
   have HT:Hid (Y1 w wo (w.heap.size+1) eb oc (.slice xa xn xc) (.slice ra rn rc) s rbs (fun _ _=>-2)):=by
    have hne1:∀ b ∈ rbs,w.heap.size≤b:=fun b hb=>by have:=HI.out.ge b hb;omega
    refine⟨HI.out.below.size,HI.out.below.block,HI.out.tr,hel,?_,HI.out.row,HI.out.nodup,hne1,?_,?_⟩
    ·intro i hi2
     rw[hcs i (by omega),List.getElem?_map,List.getElem?_eq_getElem hi2]
     rfl
    ·intro hb
     have:=HI.out.ge _ hb
     omega
    ·intro hb
     obtain⟨j,hj,he⟩:=List.getElem_of_mem hb
     have:=zn HI.out.own (HI.out.row j hj) (by decide)
     exact this (by rw[he];rfl)
   clear hcs
   go_wp2_with fail
   go_ret
   exact⟨eb,oc,rbs,hlen,rfl,HT.out,HI.out.below⟩
end Go.Proofs.YtiganlkabilblaaGreatDoor
