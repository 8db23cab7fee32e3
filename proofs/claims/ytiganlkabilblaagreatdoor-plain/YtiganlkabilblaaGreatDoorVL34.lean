import Derived.Test.YtiganlkabilblaaGreatDoorVL32
set_option linter.all false
set_option maxHeartbeats 64000000
set_option maxRecDepth 100000
namespace Go.Proofs.YtiganlkabilblaaGreatDoor
open Go.RowKit
def sgT (j:Nat) (e:Bool):UInt8 × UInt8:=if e=true∧(j=1∨j=2) then (0,63) else if j=0 then (0,63) else if j=1 then (0,42) else if j=2 then (0,43) else if j=3 then (38,0) else (33,0)
def sgX (ab:UInt8 × UInt8) (x:List UInt8):List UInt8:=if ab.1=0 then x++[ab.2] else ab.1::x
def SgF (w:World) (t:List UInt8) (e:Bool) (d:Nat) (b:List UInt8) (j:Nat) (en:Ending) (w':World):Prop:=
 ∃ t' e',en = .returned (mdV t' e' (d+1))∧(t'=sgX (sgT j e) (brk b t)∧e'=((sgT j e).2 != 43))∧Below w.heap.size w w'
theorem zpK (t:List UInt8) (e:Bool) (d:Nat) (sign style:Int) (w:World) (hg:i64 sign) (hs:i64 style) (ht:t.length≤100000) (hd:d≤1000) :
  Calls Tryz.prog 53 #[mdV t e d,.int .i64 sign,.int .i64 style] w fun e' w'=>SgF w t e d (z5 style) (YY sign 5) e' w':=by
 have h1:=fun w=>zkc t e d style w hs ht hd
 have hp:=fun w=>zk7 sign 5 w hg (by decide) (by decide)
 have h5:=zh9 sign (n:=5) (by decide)
 have l1:=zjT (ql style)
 have hL:=zjN (z5 style) t
 have z1:(brk (z5 style) t).length≤200000:=by omega
 obtain⟨x1,hx⟩:∃ x,x=brk (z5 style) t:=⟨_,rfl⟩
 rw[← hx] at h1 z1
 have HX:Hid (x1=brk (z5 style) t):=hx
 have y1:=zjU x1
 clear l1 hL hs hg hx
 go_enter Tryz.func53,Tryz.ntmps53
 go_wp2_with fail
 refine (h1 _).mono ?_
 rintro _ w1 ⟨rfl,hb1⟩
 have hz:=hb1.size
 simp at hz
 have A0:w1.heap[w.heap.size]? = some (mdO t e d):=by
  rw[hb1.block _ (by simp;omega),zm _ _ (by simp)];exact zk _ _
 have A1:w1.heap[w.heap.size+1]? = some (mdO [] false 0):=by
  rw[hb1.block _ (by simp)];exact qb _ _ _ (by simp)
 have HB1:Hid (Below w.heap.size w w1):=((zc w _).alloc (by simp) _).trans (hb1.mono (by simp;omega))
 have q0:=z8 A0
 have q1:=z8 A1
 have g1:=zi A1
 have n0:w.heap.size<w1.heap.size:=by omega
 have n1:w.heap.size+1<w1.heap.size:=by omega
 have hk:YY sign 5=0∨YY sign 5=1∨YY sign 5=2∨YY sign 5=3∨YY sign 5=4:=by omega
 clear hb1 A0 A1 hz h1 h5
 rcases hk with hk | hk | hk | hk | hk
 ·have HK:Hid (YY sign 5=_):=hk
  rw[hk] at hp
  clear hk
  cases e with
  | true=>
   go_wp2_with (first | (go_at_call 32;refine (hp _).mono ?_;rintro _ _ ⟨rfl,rfl⟩))
   refine bodyPost_ret (v:=mdV (x1++[63]) true (d+1)) (by simp[results,Tryz.results53,go_sem,zf,q0,q1,n0,n1];done) rfl ⟨x1++[63],true,rfl,⟨by rw[HK.out,← HX.out];rfl,by rw[HK.out];rfl⟩,K1 HB1.out (by omega) (by omega) _ _ _ _⟩
  | false=>
   go_wp2_with (first | (go_at_call 32;refine (hp _).mono ?_;rintro _ _ ⟨rfl,rfl⟩))
   refine bodyPost_ret (v:=mdV (x1++[63]) true (d+1)) (by simp[results,Tryz.results53,go_sem,zf,q0,q1,n0,n1];done) rfl ⟨x1++[63],true,rfl,⟨by rw[HK.out,← HX.out];rfl,by rw[HK.out];rfl⟩,K1 HB1.out (by omega) (by omega) _ _ _ _⟩
 ·have HK:Hid (YY sign 5=_):=hk
  rw[hk] at hp
  clear hk
  cases e with
  | true=>
   go_wp2_with (first | (go_at_call 32;refine (hp _).mono ?_;rintro _ _ ⟨rfl,rfl⟩))
   refine bodyPost_ret (v:=mdV (x1++[63]) true (d+1)) (by simp[results,Tryz.results53,go_sem,zf,q0,q1,n0,n1];done) rfl ⟨x1++[63],true,rfl,⟨by rw[HK.out,← HX.out];rfl,by rw[HK.out];rfl⟩,K1 HB1.out (by omega) (by omega) _ _ _ _⟩
  | false=>
   go_wp2_with (first | (go_at_call 32;refine (hp _).mono ?_;rintro _ _ ⟨rfl,rfl⟩))
   refine bodyPost_ret (v:=mdV (x1++[42]) true (d+1)) (by simp[results,Tryz.results53,go_sem,zf,q0,q1,n0,n1];done) rfl ⟨x1++[42],true,rfl,⟨by rw[HK.out,← HX.out];rfl,by rw[HK.out];rfl⟩,K1 HB1.out (by omega) (by omega) _ _ _ _⟩
 ·have HK:Hid (YY sign 5=_):=hk
  rw[hk] at hp
  clear hk
  cases e with
  | true=>
   go_wp2_with (first | (go_at_call 32;refine (hp _).mono ?_;rintro _ _ ⟨rfl,rfl⟩))
   refine bodyPost_ret (v:=mdV (x1++[63]) true (d+1)) (by simp[results,Tryz.results53,go_sem,zf,q0,q1,n0,n1];done) rfl ⟨x1++[63],true,rfl,⟨by rw[HK.out,← HX.out];rfl,by rw[HK.out];rfl⟩,K1 HB1.out (by omega) (by omega) _ _ _ _⟩
  | false=>
   go_wp2_with (first | (go_at_call 32;refine (hp _).mono ?_;rintro _ _ ⟨rfl,rfl⟩))
   refine bodyPost_ret (v:=mdV (x1++[43]) false (d+1)) (by simp[results,Tryz.results53,go_sem,zf,q0,q1,n0,n1];done) rfl ⟨x1++[43],false,rfl,⟨by rw[HK.out,← HX.out];rfl,by rw[HK.out];rfl⟩,K1 HB1.out (by omega) (by omega) _ _ _ _⟩
 ·have HK:Hid (YY sign 5=_):=hk
  rw[hk] at hp
  clear hk
  cases e with
  | true=>
   go_wp2_with (first | (go_at_call 32;refine (hp _).mono ?_;rintro _ _ ⟨rfl,rfl⟩))
   refine bodyPost_ret (v:=mdV (38::x1) true (d+1)) (by simp[results,Tryz.results53,go_sem,zf,q0,q1,n0,n1];done) rfl ⟨38::x1,true,rfl,⟨by rw[HK.out,← HX.out];rfl,by rw[HK.out];rfl⟩,K1 HB1.out (by omega) (by omega) _ _ _ _⟩
  | false=>
   go_wp2_with (first | (go_at_call 32;refine (hp _).mono ?_;rintro _ _ ⟨rfl,rfl⟩))
   refine bodyPost_ret (v:=mdV (38::x1) true (d+1)) (by simp[results,Tryz.results53,go_sem,zf,q0,q1,n0,n1];done) rfl ⟨38::x1,true,rfl,⟨by rw[HK.out,← HX.out];rfl,by rw[HK.out];rfl⟩,K1 HB1.out (by omega) (by omega) _ _ _ _⟩
 ·have HK:Hid (YY sign 5=_):=hk
  rw[hk] at hp
  clear hk
  cases e with
  | true=>
   go_wp2_with (first | (go_at_call 32;refine (hp _).mono ?_;rintro _ _ ⟨rfl,rfl⟩))
   refine bodyPost_ret (v:=mdV (33::x1) true (d+1)) (by simp[results,Tryz.results53,go_sem,zf,q0,q1,n0,n1];done) rfl ⟨33::x1,true,rfl,⟨by rw[HK.out,← HX.out];rfl,by rw[HK.out];rfl⟩,K1 HB1.out (by omega) (by omega) _ _ _ _⟩
  | false=>
   go_wp2_with (first | (go_at_call 32;refine (hp _).mono ?_;rintro _ _ ⟨rfl,rfl⟩))
   refine bodyPost_ret (v:=mdV (33::x1) true (d+1)) (by simp[results,Tryz.results53,go_sem,zf,q0,q1,n0,n1];done) rfl ⟨33::x1,true,rfl,⟨by rw[HK.out,← HX.out];rfl,by rw[HK.out];rfl⟩,K1 HB1.out (by omega) (by omega) _ _ _ _⟩
end Go.Proofs.YtiganlkabilblaaGreatDoor
