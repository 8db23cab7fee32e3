import Derived.Test.YtiganlkabilblaaDoorV11
import Derived.Test.YtiganlkabilblaaDoorV10
import Derived.Test.YtiganlkabilblaaDoorV03
set_option linter.all false
set_option maxHeartbeats 64000000
set_option maxRecDepth 100000
namespace Go.Proofs.YtiganlkabilblaaDoor
open Go.RowKit
theorem qb (w:World) (o:Obj) (b:Nat) (hb:b=w.heap.size):(w.alloc o).heap[b]? = some o:=by rw[hb];exact zk _ _
theorem ql (style:Int):z5 style ∈ z4:=by
 have h4:=zh9 style (n:=4) (by decide)
 have hk:YY style 4=0∨YY style 4=1∨YY style 4=2∨YY style 4=3:=by omega
 unfold z5
 rcases hk with hk | hk | hk | hk<;>rw[hk]<;>decide
theorem zjT {b:List UInt8} (h:b ∈ z4):b.length≤6:=by
 simp only[z4,List.mem_cons,List.not_mem_nil,or_false] at h
 rcases h with rfl | rfl | rfl | rfl<;>decide
theorem zkc (t:List UInt8) (e:Bool) (d:Nat) (style:Int) (w:World) (hs:i64 style) (ht:t.length≤100000) (hd:d≤1000) :
  Calls Tryd.prog 13 #[.agg #[.string (bs t),.bool e,.int .i64 d],.int .i64 style] w fun e' w'=>e' = .returned (.agg #[.string (bs (brk (z5 style) t)),.bool e,.int .i64 ↑(d+1)])∧Below w.heap.size w w':=zkU t e d style w hs ht hd
theorem zl3 {c:Int} (h:i64 c):i64 (c.tdiv 4):=by
 obtain⟨h1,h2⟩:=h
 rcases Int.lt_or_le c 0 with hc | hc
 ·have e:c.tdiv 4 = -((-c).tdiv 4):=by rw[Int.neg_tdiv];omega
  rw[e,Int.tdiv_eq_ediv_of_nonneg (by omega)]
  constructor<;>omega
 ·rw[Int.tdiv_eq_ediv_of_nonneg hc]
  constructor<;>omega
theorem K1 {B b:Nat} {w w':World} (h:Below B w w') (hb:B≤b) (hs:B≤w'.heap.size) (x y z:Value) (O:Obj):Below B w ((((w'.setCell ⟨b,0,none⟩ x).setCell ⟨b,1,none⟩ y).setCell ⟨b,2,none⟩ z).alloc O):=
 (((h.setCell hb _).setCell hb _).setCell hb _).alloc (by simpa using hs) _
def KT (ch:Bool) (x y:List UInt8):List UInt8:=x++[if ch then 47 else 32]++y
theorem zlx (t1:List UInt8) (e1:Bool) (d1:Nat) (t2:List UInt8) (e2:Bool) (d2:Nat) (ch:Bool) (style:Int) (w:World) (hs:i64 style) (ht1:t1.length≤100000) (hd1:d1≤1000) (ht2:t2.length≤100000) (hd2:d2≤1000) :
  Calls Tryd.prog 8 #[mdV t1 e1 d1,mdV t2 e2 d2,.bool ch,.int .i64 style] w fun e' w'=>e' = .returned (mdV (KT ch (brk (z5 style) t1) (brk (z5 (style.tdiv 4)) t2)) (if ch then e1 || e2 else e1 && e2) (max (d1+1) (d2+1)))∧Below w.heap.size w w':=by
 obtain⟨hs1,hs2⟩:=hs
 have hq:i64 (style.tdiv 4):=zl3 ⟨hs1,hs2⟩
 have h1:=fun w=>zkc t1 e1 d1 style w ⟨hs1,hs2⟩ ht1 hd1
 have h2:=fun w=>zkc t2 e2 d2 (style.tdiv 4) w hq ht2 hd2
 have l1:=zjT (ql style)
 have l2:=zjT (ql (style.tdiv 4))
 have z1:(brk (z5 style) t1).length≤200000:=by rw[zjN];omega
 have z2:(brk (z5 (style.tdiv 4)) t2).length≤200000:=by rw[zjN];omega
 generalize brk (z5 style) t1=x1 at *
 generalize brk (z5 (style.tdiv 4)) t2=x2 at *
 have y1:=zjU x1
 have y2:=zjU x2
 clear l1 l2 hq
 generalize hM:max (d1+1) (d2+1)=M
 go_enter Tryd.func8,Tryd.ntmps8
 go_wp2_with fail
 refine (h1 _).mono ?_
 rintro e w1 ⟨rfl,hb1⟩
 have hz:=hb1.size
 simp at hz
 have A0:w1.heap[w.heap.size]? = some (mdO t1 e1 d1):=by
  rw[hb1.block _ (by simp;omega),zm _ _ (by simp;omega),zm _ _ (by simp)];exact zk _ _
 have A1:w1.heap[w.heap.size+1]? = some (mdO t2 e2 d2):=by
  rw[hb1.block _ (by simp),zm _ _ (by simp)];exact qb _ _ _ (by simp)
 have A2:w1.heap[w.heap.size+1+1]? = some (mdO [] false 0):=by
  rw[hb1.block _ (by simp)];exact qb _ _ _ (by simp)
 have hB1:Below w.heap.size w w1:=(((zc w _).alloc (by simp) _).alloc (by simp;omega) _).trans (hb1.mono (by simp;omega))
 have HB1:Hid (Below w.heap.size w w1):=hB1
 have a1:=z8 A1
 have f1:=zi A1
 have n0:w.heap.size<w1.heap.size:=by omega
 have n1:w.heap.size+1<w1.heap.size:=by omega
 have n2:w.heap.size+1+1<w1.heap.size:=by omega
 have HA0:Hid _:=A0
 have HA1:Hid _:=A1
 have HA2:Hid _:=A2
 clear hb1 A0 A1 A2 hB1 h1
 go_wp2_with fail
 refine (h2 _).mono ?_
 rintro e w2 ⟨rfl,hb2⟩
 have hz2:=hb2.size
 simp at hz2
 have A0:w2.heap[w.heap.size]? = some (mdO t1 e1 d1):=by
  rw[hb2.block _ (by simp;omega),zm _ _ (by omega)];exact HA0.out
 have A1:w2.heap[w.heap.size+1]? = some (mdO t2 e2 d2):=by
  rw[hb2.block _ (by simp;omega),zm _ _ (by omega)];exact HA1.out
 have A2:w2.heap[w.heap.size+1+1]? = some (mdO [] false 0):=by
  rw[hb2.block _ (by simp;omega),zm _ _ (by omega)];exact HA2.out
 have A3:w2.heap[w1.heap.size]? = some (.cells #[.string (bs x1),.bool e1,.int .i64 (↑d1+1)] 24):=by
  rw[hb2.block _ (by simp)];exact zk _ _
 have HB2:Hid (Below w.heap.size w w2):=(HB1.out.alloc (by omega) _).trans (hb2.mono (by simp;omega))
 have q0:=z8 A0
 have q1:=z8 A1
 have q2:=z8 A2
 have q3:=z8 A3
 have g2:=zi A2
 have m0:w.heap.size<w2.heap.size:=by omega
 have m1:w.heap.size+1<w2.heap.size:=by omega
 have m2:w.heap.size+1+1<w2.heap.size:=by omega
 have m3:w1.heap.size<w2.heap.size:=by omega
 have hne:¬ w.heap.size+1+1=w2.heap.size:=by omega
 clear hb2 A0 A1 A2 A3 h2 HA0 HA1 HA2 HB1 a1 f1 n0 n1 n2 hz hz2
 rcases Nat.lt_or_ge d1 d2 with hdd | hdd
 ·obtain rfl:M=d2+1:=by omega
  clear hM
  cases ch with
  | true=>
   cases e1 with
   | true=>
    go_wp2_with fail
    refine bodyPost_ret (v:=mdV (KT true x1 x2) true (d2+1)) (by simp[results,Tryd.results8,go_sem,zf,KT,q0,q1,q2,q3,m0,m1,m2,m3];done) rfl ⟨rfl,?_⟩
    exact K1 HB2.out (by omega) (by omega) _ _ _ _
   | false=>
    go_wp2_with fail
    refine bodyPost_ret (v:=mdV (KT true x1 x2) e2 (d2+1)) (by simp[results,Tryd.results8,go_sem,zf,KT,q0,q1,q2,q3,m0,m1,m2,m3];done) rfl ⟨rfl,?_⟩
    exact K1 HB2.out (by omega) (by omega) _ _ _ _
  | false=>
   cases e1 with
   | true=>
    go_wp2_with fail
    refine bodyPost_ret (v:=mdV (KT false x1 x2) e2 (d2+1)) (by simp[results,Tryd.results8,go_sem,zf,KT,q0,q1,q2,q3,m0,m1,m2,m3];done) rfl ⟨rfl,?_⟩
    exact K1 HB2.out (by omega) (by omega) _ _ _ _
   | false=>
    go_wp2_with fail
    refine bodyPost_ret (v:=mdV (KT false x1 x2) false (d2+1)) (by simp[results,Tryd.results8,go_sem,zf,KT,q0,q1,q2,q3,m0,m1,m2,m3];done) rfl ⟨rfl,?_⟩
    exact K1 HB2.out (by omega) (by omega) _ _ _ _
 ·obtain rfl:M=d1+1:=by omega
  clear hM
  cases ch with
  | true=>
   cases e1 with
   | true=>
    go_wp2_with fail
    refine bodyPost_ret (v:=mdV (KT true x1 x2) true (d1+1)) (by simp[results,Tryd.results8,go_sem,zf,KT,q0,q1,q2,q3,m0,m1,m2,m3];done) rfl ⟨rfl,?_⟩
    exact K1 HB2.out (by omega) (by omega) _ _ _ _
   | false=>
    go_wp2_with fail
    refine bodyPost_ret (v:=mdV (KT true x1 x2) e2 (d1+1)) (by simp[results,Tryd.results8,go_sem,zf,KT,q0,q1,q2,q3,m0,m1,m2,m3];done) rfl ⟨rfl,?_⟩
    exact K1 HB2.out (by omega) (by omega) _ _ _ _
  | false=>
   cases e1 with
   | true=>
    go_wp2_with fail
    refine bodyPost_ret (v:=mdV (KT false x1 x2) e2 (d1+1)) (by simp[results,Tryd.results8,go_sem,zf,KT,q0,q1,q2,q3,m0,m1,m2,m3];done) rfl ⟨rfl,?_⟩
    exact K1 HB2.out (by omega) (by omega) _ _ _ _
   | false=>
    go_wp2_with fail
    refine bodyPost_ret (v:=mdV (KT false x1 x2) false (d1+1)) (by simp[results,Tryd.results8,go_sem,zf,KT,q0,q1,q2,q3,m0,m1,m2,m3];done) rfl ⟨rfl,?_⟩
    exact K1 HB2.out (by omega) (by omega) _ _ _ _
end Go.Proofs.YtiganlkabilblaaDoor
