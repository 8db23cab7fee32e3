import Derived.Test.YtiganlkabilblaaGreatDoorV42
import Derived.Deep.RegionHeld
import Derived.Deep.AppendLies
import Derived.Test.YtiganlkabilblaaGreatDoorRows
import Derived.Test.YtiganlkabilblaaGreatDoorV00
import Derived.Deep.Slices
import Derived.WalkKit
import Derived.ProofKit
import Derived.OpenShut
import Derived.ShutString
import Derived.ChangeMaps5
import Derived.ChangeOld
import Derived.Below
import Derived.ChangeSame
import Derived.ChangeVars
import Derived.JoinedOf
import Derived.RowKit
import Derived.RowKitTokens
import Derived.BigQuiet
set_option linter.all false
set_option maxHeartbeats 64000000
set_option maxRecDepth 100000
namespace Go.Proofs.YtiganlkabilblaaGreatDoor
open Go.RowKit Thk Go.Lib
attribute [local go_sem ↓] Go.wp_at_zero Go.wp_at_succ
def KpT (w w':World):Prop:=∀ (x:Nat) (cs:Array Value) (T:TypeId),w.heap[x]? = some (.cells cs T (0,0))→(T=167∨T=100)→w'.heap[x]? = w.heap[x]?
theorem KpT.trans {a b c:World} (h:KpT a b) (k:KpT b c):KpT a c:=fun x cs T hx hT=>by
 have h1:=h x cs T hx hT
 rw[k x cs T (h1.trans hx) hT,h1]
theorem KpT.of_below {w w':World} (hb:Below w.heap.size w w'):KpT w w':=fun x _ _ hx _=>hb.block x (zd hx)
theorem Z2.kpt {B:Nat} {F:Nat→Prop} {w w':World} {p:Pr} (h:Z2 B F w p) (hg:GrW w w' p.mut):KpT w w':=fun x cs T hx hT=>hg.block x (zd hx) (fun hm=>by
 obtain⟨cs',T',h1,h2⟩:=h.typ2 hm
 rw[hx] at h1
 simp at h1
 obtain⟨_,rfl⟩:=h1
 rcases h2 with e | e | e | e<;>subst e<;>rcases hT with h | h<;>exact absurd h (by decide))
section
variable {w0 w w' : World} {yb i : Nat} {o : Nat → Nat} {ps : List Pr} {nbs : List Nat} {vp va : Value}
def JL (w0:World) (yb:Nat) (ps:List Pr) (nbs:List Nat) (vp:Value) (w w':World):Prop:=∃ o' ps' nbs',ZA w0 yb o' ps' nbs' w'∧ps'.length=ps.length∧nbs'.length≤nbs.length+1∧KpT w w'∧∃ va',w'.heap[yb]? = some (plO vp va' (.slice none 0 0))
theorem JL.from {w1:World} (h:JL w0 yb ps nbs vp w1 w') (hb:Below w.heap.size w w1):JL w0 yb ps nbs vp w w':=by
 obtain⟨o',ps',nbs',h1,h2,h3,h4,h5⟩:=h
 exact⟨o',ps',nbs',h1,h2,h3,(KpT.of_below hb).trans h4,h5⟩
theorem ZA.rds (h:ZA w0 yb o ps nbs w) (e1:w.heap[yb]? = some (plO vp va (.slice none 0 0))) (hi:i<ps.length) (hN:Nxt w0.heap.size (fun x=>o x=i+2∧w0.heap.size≤x) w w' ps[i]):JL w0 yb ps nbs vp w w':=by
 obtain⟨hg,p',he,hp⟩:=hN
 obtain⟨o',h'⟩:=h.pair hi he hg hp
 refine⟨o',_,nbs,h',by rw[List.length_set],by omega,(h.prs i hi).kpt hg,va,?_⟩
 rw[hg.block yb (zd e1) (fun hm=>by
  have:=((h.prs i hi).mu yb hm).1.1
  rw[h.yo] at this
  omega)]
 exact e1
theorem zhB (h:ZA w0 yb o ps nbs w) (e1:w.heap[yb]? = some (plO vp va (.slice none 0 0))) (hi:i<ps.length) (q:ByteArray) (hq:q.size≤281474976710656):∃ er:Int,Calls Tryz.prog 33 #[z9 ps[i].xb,.string q] w fun e w1=>e = .returned (.int .i64 er)∧KpT w w1 ∧
  Calls Tryz.prog 114 #[z9 ps[i].cb,.string q] w1 fun e' w2=>e' = .returned (.int .i64 er)∧JL w0 yb ps nbs vp w w2:=
 ⟨_,(zeQ (h.prs i hi) h.bel.size q hq).mono (fun _ _ k=>⟨k.1,(h.prs i hi).kpt k.2.1,k.2.2.mono (fun _ _ k2=>⟨k2.1,h.rds e1 hi k2.2⟩)⟩)⟩
theorem zhA (h:ZA w0 yb o ps nbs w) (e1:w.heap[yb]? = some (plO vp va (.slice none 0 0))) (hi:i<ps.length):∃ (a:Int) (b:Bool) (c:Int),Calls Tryz.prog 35 #[z9 ps[i].xb] w fun e w1=>e = .returned (.tuple #[.int .i64 a,.bool b,.int .i64 c])∧KpT w w1 ∧
  Calls Tryz.prog 115 #[z9 ps[i].cb] w1 fun e' w2=>e' = .returned (.tuple #[.int .i64 a,.bool b,.int .i64 c])∧JL w0 yb ps nbs vp w w2:=by
 obtain⟨a,b,c,hC⟩:=zeJ (h.prs i hi)
 exact⟨a,b,c,hC.mono (fun _ _ k=>⟨k.1,(h.prs i hi).kpt k.2.1,k.2.2.mono (fun _ _ k2=>⟨k2.1,h.rds e1 hi k2.2⟩)⟩)⟩
theorem zhy (h:ZA w0 yb o ps nbs w) (e1:w.heap[yb]? = some (plO vp va (.slice none 0 0))) (hi:i<ps.length):∃ er:Int,Calls Tryz.prog 36 #[z9 ps[i].xb] w fun e w1=>e = .returned (.int .i64 er)∧KpT w w1 ∧
  Calls Tryz.prog 117 #[z9 ps[i].cb] w1 fun e' w2=>e' = .returned (.int .i64 er)∧JL w0 yb ps nbs vp w w2:=
 ⟨_,(zdL (h.prs i hi)).mono (fun _ _ k=>⟨k.1,(h.prs i hi).kpt k.2.1,k.2.2.mono (fun _ _ k2=>⟨k2.1,h.rds e1 hi k2.2⟩)⟩)⟩
theorem zhz {w3:World} {v:Value} {L:List Nod} (h:ZA w0 yb o ps nbs w) (e1:w.heap[yb]? = some (plO vp va (.slice none 0 0))) (hb:Below w.heap.size w w3) (hN:Y0 w3 w.heap.size v L) (hL:L.length≤5000) (hm:nbs.length≤5000000000000) :
  Calls Tryz.prog 49 #[.pointer (some ⟨yb,1,none⟩),v] w3 fun e w4=>e = .returned (.tuple #[])∧JL w0 yb ps nbs vp w w4:=by
 obtain⟨vp',va',f1,e2,e3,e4,e5⟩:=h.ex
 rw[e1] at f1
 simp at f1
 obtain⟨rfl,rfl⟩:=f1
 have hz:=hb.size
 have hz0:=h.bel.size
 refine (ze6 w3 yb nbs.length w0.heap.size w.heap.size vp va _ v (nbs.map Jy) _ L.length (by rw[hb.block yb (zd e1)];exact e1) (Zv e3 hb) hN hL hm (by omega)).mono ?_
 rintro e w4 ⟨rfl,hB⟩
 have hT:=hB.trd hb hN
 refine⟨rfl,?_⟩
 obtain⟨nb,o',h'⟩:=h.booked e1 e2 e3 e4 e5 hT
 obtain⟨va2,nb2,t1,t2,t3,t4,t5⟩:=hT
 refine⟨o',ps,_,h',rfl,by simp,fun x cs T hx hT=>t4.block x (zd hx) (fun hm=>?_),va2,t1⟩
 rcases hm with rfl | hm
 ·rw[e1] at hx
  simp at hx
  obtain⟨_,rfl⟩:=hx
  rcases hT with h | h<;>exact absurd h (by decide)
 ·obtain⟨cur,hc⟩:=Zr e3 hm
  rw[hx] at hc
  simp at hc
  obtain⟨_,rfl⟩:=hc
  rcases hT with h | h<;>exact absurd h (by decide)
theorem zhF (h:ZA w0 yb o ps nbs w) (e1:w.heap[yb]? = some (plO vp va (.slice none 0 0))) (hi:i<ps.length) (kd r:Int) (t s:ByteArray) (hk : 2≤kd∧kd≤5) (hs:s.size≤281474976710656) (hm:nbs.length≤5000000000000) :
  Calls Tryz.prog 78 #[z9 yb,.agg #[z9 ps[i].xb,z9 ps[i].cb],.agg #[.int .i64 kd,.int .i64 r,.string t,.string s]] w fun e w'=>e = .returned (.bool true)∧JL w0 yb ps nbs vp w w':=by
 have hbW:=QY w (pbO ps[i].xb ps[i].cb) (opO kd r t s)
 have b4:((w.alloc (pbO ps[i].xb ps[i].cb)).alloc (opO kd r t s)).heap[w.heap.size]? = some (pbO ps[i].xb ps[i].cb):=by
  rw[zm _ _ (by simp)];exact zk _ _
 have b5:((w.alloc (pbO ps[i].xb ps[i].cb)).alloc (opO kd r t s)).heap[w.heap.size+1]? = some (opO kd r t s):=by
  have:=zk (w.alloc (pbO ps[i].xb ps[i].cb)) (opO kd r t s)
  simpa using this
 have hP:=h.below hbW
 have e1W:((w.alloc (pbO ps[i].xb ps[i].cb)).alloc (opO kd r t s)).heap[yb]? = some (plO vp va (.slice none 0 0)):=by rw[hbW.block yb (zd e1)];exact e1
 have HKF:Hid (∀ w1,KpT ((w.alloc (pbO ps[i].xb ps[i].cb)).alloc (opO kd r t s)) w1→w1.heap[w.heap.size]? = some (pbO ps[i].xb ps[i].cb)∧w1.heap[w.heap.size+1]? = some (opO kd r t s)):=z6 (fun w1 hk1=>⟨(hk1 _ _ _ b4 (.inl rfl)).trans b4,(hk1 _ _ _ b5 (.inr rfl)).trans b5⟩)
 have HFR:Hid (∀ w1,JL w0 yb ps nbs vp ((w.alloc (pbO ps[i].xb ps[i].cb)).alloc (opO kd r t s)) w1→JL w0 yb ps nbs vp w w1):=z6 (fun w1 hr=>hr.from hbW)
 have hk4:kd=2∨kd=3∨kd=4∨kd=5:=by omega
 have HP:=z6 hP
 have HE:=z6 e1W
 clear h hbW b4 b5 hP e1W hk e1
 rcases hk4 with rfl | rfl | rfl | rfl
 ·obtain⟨er,hF⟩:=zhB HP.out HE.out hi s hs
  have HF:=z6 hF
  clear hF HP HE
  generalize ps[i].xb=xb at *
  generalize ps[i].cb=cb at *
  go_enter Tryz.func78,Tryz.ntmps78
  go_wp2_with fail
  refine HF.out.mono ?_
  rintro _ w1 ⟨rfl,hk1,hC⟩
  obtain⟨d4,d5⟩:=HKF.out w1 hk1
  have z4:=z8 d4
  have z5:=z8 d5
  have l4:=za d4
  have l5:=za d5
  have HC:=z6 hC
  clear hC hk1 d4 d5 HF
  go_wp2_with fail
  refine HC.out.mono ?_
  rintro _ w2 ⟨rfl,hR⟩
  have HR:=z6 (HFR.out _ hR)
  clear hR HC z4 z5 l4 l5
  go_wp2_with fail
  go_ret
  exact⟨by simp,HR.out⟩
 ·obtain⟨x,y,z,hF⟩:=zhA HP.out HE.out hi
  have HF:=z6 hF
  clear hF HP HE
  generalize ps[i].xb=xb at *
  generalize ps[i].cb=cb at *
  go_enter Tryz.func78,Tryz.ntmps78
  go_wp2_with fail
  refine HF.out.mono ?_
  rintro _ w1 ⟨rfl,hk1,hC⟩
  obtain⟨d4,d5⟩:=HKF.out w1 hk1
  have z4:=z8 d4
  have z5:=z8 d5
  have l4:=za d4
  have l5:=za d5
  have HC:=z6 hC
  clear hC hk1 d4 d5 HF
  go_wp2_with fail
  refine HC.out.mono ?_
  rintro _ w2 ⟨rfl,hR⟩
  have HR:=z6 (HFR.out _ hR)
  clear hR HC z4 z5 l4 l5
  go_wp2_with fail
  all_goals go_ret
  all_goals exact⟨by simp,HR.out⟩
 ·obtain⟨L,er,hL,hN⟩:=zgS (HP.out.prs i hi)
  have HN:=z6 hN
  have HBK:Hid (∀ w3 v,Below ((w.alloc (pbO ps[i].xb ps[i].cb)).alloc (opO 4 r t s)).heap.size ((w.alloc (pbO ps[i].xb ps[i].cb)).alloc (opO 4 r t s)) w3→Y0 w3 ((w.alloc (pbO ps[i].xb ps[i].cb)).alloc (opO 4 r t s)).heap.size v L→Calls Tryz.prog 49 #[.pointer (some ⟨yb,1,none⟩),v] w3 fun e w4=>e = .returned (.tuple #[])∧Hid (JL w0 yb ps nbs vp w w4)):=z6 (fun w3 v hb3 hN3=>(zhz HP.out HE.out hb3 hN3 hL hm).mono (fun _ _ k=>⟨k.1,z6 (HFR.out _ k.2)⟩))
  have hyl:yb<((w.alloc (pbO ps[i].xb ps[i].cb)).alloc (opO 4 r t s)).heap.size:=zd HE.out
  clear hN HP HE
  generalize ps[i].xb=xb at *
  generalize ps[i].cb=cb at *
  go_enter Tryz.func78,Tryz.ntmps78
  go_wp2_with fail
  refine HN.out.mono ?_
  rintro _ w1 ⟨hb1,a,c,rfl,hN1,hC⟩
  obtain⟨d4,d5⟩:=HKF.out w1 (KpT.of_below hb1)
  have z4:=z8 d4
  have z5:=z8 d5
  have l4:=za d4
  have l5:=za d5
  have hz1:=hb1.size
  have HC:=z6 hC
  have HB1:=z6 hb1
  have HN1:=z6 hN1
  clear hC d4 d5 HN hb1 hN1
  go_wp2_with fail
  refine HC.out.mono ?_
  rintro _ w2 ⟨hb2,a2,c2,rfl,hN2⟩
  have hz2:=hb2.size
  have hN1':Y0 w2 _ (.slice a L.length c) L:=Zv HN1.out hb2
  have HSM:=z6 (ziC w2 _ _ _ _ L hN1' hN2)
  have HB2:Hid (Below ((w.alloc (pbO xb cb)).alloc (opO 4 r t s)).heap.size ((w.alloc (pbO xb cb)).alloc (opO 4 r t s)) w2):=HB1.out.trans (hb2.mono HB1.out.size)
  have HN2:=z6 hN1'
  clear hb2 hN2 hN1' HC z4 z5 l4 l5 HN1
  go_wp2_with fail
  refine HSM.out.mono ?_
  rintro _ w3 ⟨rfl,hb3⟩
  have hz3:=hb3.size
  have HBN:=z6 (HBK.out w3 (.slice a L.length c) (HB2.out.trans (hb3.mono HB2.out.size)) (Zv HN2.out hb3))
  have hyl3:yb<w3.heap.size:=by omega
  clear hb3 HSM HBK HN2 HB2
  go_wp2_with fail
  refine HBN.out.mono ?_
  rintro _ w4 ⟨rfl,HZ⟩
  clear HBN
  go_wp2_with fail
  go_ret
  exact⟨by simp,HZ.out⟩
 ·obtain⟨er,hF⟩:=zhy HP.out HE.out hi
  have HF:=z6 hF
  clear hF HP HE
  generalize ps[i].xb=xb at *
  generalize ps[i].cb=cb at *
  go_enter Tryz.func78,Tryz.ntmps78
  go_wp2_with fail
  refine HF.out.mono ?_
  rintro _ w1 ⟨rfl,hk1,hC⟩
  obtain⟨d4,d5⟩:=HKF.out w1 hk1
  have z4:=z8 d4
  have z5:=z8 d5
  have l4:=za d4
  have l5:=za d5
  have HC:=z6 hC
  clear hC hk1 d4 d5 HF
  go_wp2_with fail
  refine HC.out.mono ?_
  rintro _ w2 ⟨rfl,hR⟩
  have HR:=z6 (HFR.out _ hR)
  clear hR HC z4 z5 l4 l5
  go_wp2_with fail
  go_ret
  exact⟨by simp,HR.out⟩
end
section
variable {w0 w : World} {yb : Nat} {o : Nat → Nat} {ps : List Pr} {nbs : List Nat}
def U9 (w0:World) (yb:Nat) (ps:List Pr) (nbs:List Nat) (w':World):Prop:=∃ o' ps' nbs',ZA w0 yb o' ps' nbs' w'∧ps'.length≤ps.length+1∧nbs'.length≤nbs.length+1
theorem zc4 (ps:List Pr) (i j:Nat) (hi:i<ps.length) (hj:j<2):(ps.flatMap Qe)[i * 2+j]? = (Qe ps[i])[j]? := by
 induction ps generalizing i with
 | nil=>simp at hi
 | cons p ps ih=>
  have hl:(Qe p).length=2:=rfl
  cases i with
  | zero=>
   simp only[List.flatMap_cons,Nat.zero_mul,Nat.zero_add,List.getElem_cons_zero]
   rw[List.getElem?_append_left (by omega)]
  | succ i=>
   simp only[List.flatMap_cons,List.getElem_cons_succ]
   rw[List.getElem?_append_right (by omega),hl,show (i+1) * 2+j - 2=i * 2+j from by omega]
   exact ih i (by simpa using hi)
theorem ziW (h:ZA w0 yb o ps nbs w) (hg:QD w0) (kd r:Int) (t s:ByteArray) (hk : 1≤kd∧kd≤5) (hr:i64 r) (ht:t.size≤maxLen) (hs:s.size≤281474976710656) (hps:ps.length≤5000000000000) (hm:nbs.length≤5000000000000) :
  Calls Tryz.prog 50 #[z9 yb,.agg #[.int .i64 kd,.int .i64 r,.string t,.string s]] w fun e w'=>e = .returned (.bool true)∧U9 w0 yb ps nbs w':=by
 have hbW:=zc w (opO kd r t s)
 have hP:=h.below hbW
 have b5:(w.alloc (opO kd r t s)).heap[w.heap.size]? = some (opO kd r t s):=zk _ _
 obtain⟨vp,va,e1,e2,e3,e4,e5⟩:=hP.ex
 obtain⟨pa,pc,rfl⟩:=zl e2
 by_cases hk1:kd=1
 ·subst hk1
  have HO:Hid (Calls Tryz.prog 77 #[z9 yb,.string t] (w.alloc (opO 1 r t s)) fun e w'=>e = .returned (.bool true)∧Hid (U9 w0 yb ps nbs w')):=z6 ((zh2 hP t ht hg hps).mono (fun e w' k=>⟨k.1,by
   obtain⟨_,o',ps',h1,h2⟩:=k
   exact z6 ⟨o',ps',nbs,h1,h2,by omega⟩⟩))
  clear h hbW hP b5 e1 e2 e3 e4 e5
  go_enter Tryz.func50,Tryz.ntmps50
  go_wp2_with fail
  refine HO.out.mono ?_
  rintro _ w2 ⟨rfl,HZ⟩
  clear HO
  go_wp2_with fail
  go_ret
  exact⟨rfl,HZ.out⟩
 ·have k1:¬ kd=1:=hk1
  have k6:¬ kd=6:=by omega
  have k7:¬ kd=7:=by omega
  have k8:¬ kd=8:=by omega
  have k9:¬ kd=9:=by omega
  have k10:¬ kd=10:=by omega
  have kl:¬ kd<2:=by omega
  have kg:¬ 5<kd:=by omega
  have y0:(w.alloc (opO kd r t s)).cell? ⟨yb,0,none⟩=some (.slice pa ps.length pc):=z8 e1 0
  have hyl:yb<(w.alloc (opO kd r t s)).heap.size:=zd e1
  have hyl':yb<w.heap.size+1:=by simpa using hyl
  by_cases h0:ps.length=0
  ·have HZ:Hid (U9 w0 yb ps nbs (w.alloc (opO kd r t s))):=z6 ⟨o,ps,nbs,hP,by omega,by omega⟩
   have h0':(ps.length:Int)=0:=by omega
   clear h hbW hP b5 e1 e2 e3 e4 e5
   go_enter Tryz.func50,Tryz.ntmps50
   go_wp2_with fail
   go_ret
   exact⟨rfl,HZ.out⟩
  ·have h0':¬ (ps.length:Int)=0:=by omega
   have hil:=zh9 r (n:=ps.length) (by omega)
   have HPK:Hid (∀ W:World,Calls Tryz.prog 79 #[.int .i64 r,.int .i64 ps.length] W fun e w'=>e = .returned (.int .i64 ↑(YY r ps.length))∧w'=W):=z6 (fun W=>zg2 r ps.length W hr (by omega) hps)
   generalize YY r ps.length=i at *
   have hil':(i:Int)<(ps.length:Int):=by omega
   obtain⟨pg,rfl,hpg,hc0,hc1,cur,hcur⟩:∃ pg,pa=some ⟨pg,0,none⟩∧pg<(w.alloc (opO kd r t s)).heap.size∧(w.alloc (opO kd r t s)).cell? ⟨pg,i * 2,none⟩=some (z9 ps[i].xb)∧(w.alloc (opO kd r t s)).cell? ⟨pg,i * 2+1,none⟩=some (z9 ps[i].cb)∧∃ cur,(w.alloc (opO kd r t s)).heap[pg]? = some (.cells cur 167 (0,0)):=by
    rcases e2.2 with ⟨e,hz⟩ | ⟨g,cap,cur,hv,_,hg,_⟩
    ·exact absurd hz h0
    ·simp at hv
     obtain⟨rfl,rfl⟩:=hv
     refine⟨g,rfl,za hg,?_,?_,cur,hg⟩
     ·have:=e2.cellAt (g:=g) (i * 2) (by omega)
      rw[this]
      exact zc4 ps i 0 hil (by decide)
     ·have:=e2.cellAt (g:=g) (i * 2+1) (by omega)
      rw[this]
      exact zc4 ps i 1 hil (by decide)
   have HRD:Hid (∀ W:World,Below (w.alloc (opO kd r t s)).heap.size (w.alloc (opO kd r t s)) W→Calls Tryz.prog 78 #[z9 yb,.agg #[z9 ps[i].xb,z9 ps[i].cb],.agg #[.int .i64 kd,.int .i64 r,.string t,.string s]] W fun e w'=>e = .returned (.bool true)∧(w'.cell? ⟨yb,0,none⟩=some (.slice (some ⟨pg,0,none⟩) ps.length pc)∧w'.cell? ⟨pg,i * 2,none⟩=some (z9 ps[i].xb)∧w'.cell? ⟨pg,i * 2+1,none⟩=some (z9 ps[i].cb)∧w'.cell? ⟨w.heap.size,0,none⟩=some (.int .i64 kd)∧w'.cell? ⟨w.heap.size,1,none⟩=some (.int .i64 r)∧w'.cell? ⟨w.heap.size,2,none⟩=some (.string t)∧w'.cell? ⟨w.heap.size,3,none⟩=some (.string s))∧Hid (U9 w0 yb ps nbs w')):=z6 (fun W hW=>by
    have e1W:W.heap[yb]? = some (plO (.slice (some ⟨pg,0,none⟩) ps.length pc) va (.slice none 0 0)):=by rw[hW.block yb hyl];exact e1
    refine (zhF (hP.below hW) e1W hil kd r t s ⟨by omega,hk.2⟩ hs hm).mono ?_
    rintro e w' ⟨rfl,o',ps',nbs',p1,p2,p3,p4,va',p5⟩
    have hb5:W.heap[w.heap.size]? = some (opO kd r t s):=by rw[hW.block _ (zd b5)];exact b5
    have hpgW:W.heap[pg]? = some (.cells cur 167 (0,0)):=by rw[hW.block _ hpg];exact hcur
    have q5:=(p4 _ _ _ hb5 (.inr rfl)).trans hb5
    have qp:=(p4 _ _ _ hpgW (.inl rfl)).trans hpgW
    refine⟨rfl,⟨z8 p5 0,?_,?_,z8 q5 0,z8 q5 1,z8 q5 2,z8 q5 3⟩,z6 ⟨o',ps',nbs',p1,by omega,p3⟩⟩
    ·rw[z8 qp,← z8 hcur];exact hc0
    ·rw[z8 qp,← z8 hcur];exact hc1)
   have q0:(w.alloc (opO kd r t s)).cell? ⟨w.heap.size,0,none⟩=some (.int .i64 kd):=z8 b5 0
   have q1:(w.alloc (opO kd r t s)).cell? ⟨w.heap.size,1,none⟩=some (.int .i64 r):=z8 b5 1
   have q2:(w.alloc (opO kd r t s)).cell? ⟨w.heap.size,2,none⟩=some (.string t):=z8 b5 2
   have q3:(w.alloc (opO kd r t s)).cell? ⟨w.heap.size,3,none⟩=some (.string s):=z8 b5 3
   clear h hbW hP b5 e1 e2 e3 e4 e5 hcur
   generalize ps[i].xb=xb at *
   generalize ps[i].cb=cb at *
   go_enter Tryz.func50,Tryz.ntmps50
   go_wp2_with fail
   go_region_held (fun w'=>w'.cell? ⟨yb,0,none⟩=some (.slice (some ⟨pg,0,none⟩) ps.length pc)∧w'.cell? ⟨pg,i * 2,none⟩=some (z9 xb)∧w'.cell? ⟨pg,i * 2+1,none⟩=some (z9 cb)∧w'.cell? ⟨w.heap.size,0,none⟩=some (.int .i64 kd)∧w'.cell? ⟨w.heap.size,1,none⟩=some (.int .i64 r)∧w'.cell? ⟨w.heap.size,2,none⟩=some (.string t)∧w'.cell? ⟨w.heap.size,3,none⟩=some (.string s)) (first | assumption | go_keep) (first | (go_at_call 79;refine (HPK.out _).mono ?_;rintro _ _ ⟨rfl,rfl⟩) | (go_at_call 78;refine (HRD.out _ ((Below.refl _ _).drew)).mono ?_;rintro _ w2 ⟨rfl,hSS,HZ⟩))
   all_goals go_wp2_with fail
   all_goals go_ret
   all_goals exact⟨rfl,HZ.out⟩
end
section
variable {w0 w : World} {yb : Nat} {o : Nat → Nat} {ps : List Pr} {nbs : List Nat}
theorem zjx (h:ZA w0 yb o ps nbs w) (hm:nbs.length≤5000000000000) :
  Calls Tryz.prog 51 #[.pointer (some ⟨yb,1,none⟩)] w fun e w'=>e = .returned (.bool true)∧Below w.heap.size w w':=by
 obtain⟨vp,va,e1,e2,e3,e4,e5⟩:=h.ex
 obtain⟨aa,ac,rfl⟩:=zl e3
 have hyl:=za e1
 have y1:w.cell? ⟨yb,1,none⟩=some (.slice aa nbs.length ac):=z8 e1 1
 have y2:w.cell? ⟨yb,2,none⟩=some (.slice none 0 0):=z8 e1 2
 have HE:Hid (∀ i (hi:i<nbs.length),∃ ag,aa=some ⟨ag,0,none⟩∧ag<w.heap.size∧w.cell? ⟨ag,i,none⟩=some (Jy nbs[i])):=z6 (fun i hi=>by
  rcases e3.2 with ⟨e,hz⟩ | ⟨g,cap,cur,hv,_,hg,_⟩
  ·omega
  ·simp at hv
   obtain⟨rfl,rfl⟩:=hv
   refine⟨g,rfl,za hg,?_⟩
   have:=e3.cellAt (g:=g) i (by omega)
   rw[this]
   simp[hi])
 have HN:Hid (∀ i (hi:i<nbs.length),Jf (fun x=>o x=1∧w0.heap.size≤x) w nbs[i] i):=z6 h.ent
 clear h e1 e2 e3 e4 e5
 go_enter Tryz.func51,Tryz.ntmps51
 go_wp2_with fail
 go_loopg [3] nbs.length (fun m v wr=>∃ i:Nat,m=nbs.length - i∧v = .int .i64 i∧i≤nbs.length∧Below w.heap.size w wr)
 case atStart=>exact⟨0,by omega,rfl,by omega,Below.refl _ _⟩
 case round=>
  obtain⟨i,rfl,rfl,hi,hb⟩:=hrel
  have hz:=hb.size
  have gy1:wr.cell? ⟨yb,1,none⟩=some (.slice aa nbs.length ac):=by rw[hb.cell (p:=⟨yb,1,none⟩) hyl];exact y1
  have gy2:wr.cell? ⟨yb,2,none⟩=some (.slice none 0 0):=by rw[hb.cell (p:=⟨yb,2,none⟩) hyl];exact y2
  have gyl:yb<wr.heap.size:=by omega
  have HB:=z6 hb
  clear hb
  by_cases hlt:i<nbs.length
  ·have hlt':(i:Int)<nbs.length:=by omega
   obtain⟨ag,rfl,hag,ha⟩:=HE.out i hlt
   obtain⟨n,A,C,hn,hnb,hA⟩:=(HN.out i hlt).ex
   have hnl:=za hnb
   have HNB:=z6 hnb
   have HA:=z6 hA
   clear hnb hA
   generalize nbs[i]=nb at *
   go_wp2_with fail
   go_loopg [4] 4 (fun m v wr=>∃ k:Nat,m=4 - k∧v = .int .i64 k∧k≤4∧Below w.heap.size w wr)
   case atStart=>exact⟨0,by omega,rfl,by omega,HB.out⟩
   case round=>
    obtain⟨k,rfl,rfl,hk,hb⟩:=hrel
    have hz2:=hb.size
    have v1:wr.cell? ⟨yb,1,none⟩=some (.slice (some ⟨ag,0,none⟩) nbs.length ac):=by rw[hb.cell (p:=⟨yb,1,none⟩) hyl];exact y1
    have v2:wr.cell? ⟨ag,i,none⟩=some (Jy nb):=by rw[hb.cell (p:=⟨ag,i,none⟩) hag];exact ha
    have vl:yb<wr.heap.size:=by omega
    have vg:ag<wr.heap.size:=by omega
    have HB2:=z6 hb
    clear hb gy1 gy2 gyl hz
    by_cases hkl:k<4
    ·have hkl':(k:Int)<4:=by omega
     have hnk:w.cell? ⟨nb,k,none⟩=some (.slice (A k) (n+k) (C k)):=by
      rw[z8 HNB.out]
      have hk4:k=0∨k=1∨k=2∨k=3:=by omega
      rcases hk4 with rfl | rfl | rfl | rfl<;>rfl
     go_wp2_with fail
     go_loopg [5] (n+k) (fun m v wr=>∃ j:Nat,m=n+k - j∧v = .int .i64 j∧j≤n+k∧Below w.heap.size w wr)
     case atStart=>exact⟨0,by omega,rfl,by omega,HB2.out⟩
     case round=>
      obtain⟨j,rfl,rfl,hj,hb⟩:=hrel
      have hz3:=hb.size
      have x1:wr.cell? ⟨yb,1,none⟩=some (.slice (some ⟨ag,0,none⟩) nbs.length ac):=by rw[hb.cell (p:=⟨yb,1,none⟩) hyl];exact y1
      have x2:wr.cell? ⟨ag,i,none⟩=some (Jy nb):=by rw[hb.cell (p:=⟨ag,i,none⟩) hag];exact ha
      have x3:wr.cell? ⟨nb,k,none⟩=some (.slice (A k) (n+k) (C k)):=by rw[hb.cell (p:=⟨nb,k,none⟩) hnl];exact hnk
      have xl:yb<wr.heap.size:=by omega
      have xg:ag<wr.heap.size:=by omega
      have xn:nb<wr.heap.size:=by omega
      by_cases hjl:j<n+k
      ·have hjl':(j:Int)<(n:Int)+k:=by omega
       have hjl2:(j:Int)<((n+k:Nat):Int):=by omega
       obtain⟨b,_,hbl,hAk,hcl⟩:=HA.out k j hkl hjl
       have c0:wr.cell? ⟨b,j * 4,none⟩=some (.int .i64 (-7070)):=by rw[hb.cell (p:=⟨b,j * 4,none⟩) hbl];exact hcl 0 (by decide)
       have c1:wr.cell? ⟨b,j * 4+1,none⟩=some (.int .i64 i):=by rw[hb.cell (p:=⟨b,j * 4+1,none⟩) hbl];exact hcl 1 (by decide)
       have c2:wr.cell? ⟨b,j * 4+2,none⟩=some (.int .i64 0):=by rw[hb.cell (p:=⟨b,j * 4+2,none⟩) hbl];exact hcl 2 (by decide)
       have c3:wr.cell? ⟨b,j * 4+3,none⟩=some (.int .i64 0):=by rw[hb.cell (p:=⟨b,j * 4+3,none⟩) hbl];exact hcl 3 (by decide)
       have hbl2:b<wr.heap.size:=by omega
       rw[hAk] at x3
       have HB3:=z6 hb
       clear hb v1 v2 vl vg hcl
       go_wp2_with fail
       go_roundg (n+k - (j+1))
       case measure=>omega
       case rel=>exact⟨j+1,rfl,by go_num,by omega,HB3.out.alloc hz3 _⟩
      ·have hjl':¬ (j:Int)<(n:Int)+k:=by omega
       have hjl2:¬ (j:Int)<((n+k:Nat):Int):=by omega
       have HB3:=z6 hb
       clear hb v1 v2 vl vg
       go_wp2_with fail
       go_roundg (4 - (k+1))
       case measure=>omega
       case rel=>exact⟨k+1,rfl,by go_num,by omega,HB3.out⟩
    ·have hkl':¬ (k:Int)<4:=by omega
     go_wp2_with fail
     go_roundg (nbs.length - (i+1))
     case measure=>omega
     case rel=>exact⟨i+1,rfl,by go_num,by omega,HB2.out⟩
  ·have hlt':¬ (i:Int)<nbs.length:=by omega
   go_wp2_with fail
   go_loopg [7] 1 (fun m v wr'=>m=1∧v = .int .i64 0∧wr'=wr)
   case atStart=>exact⟨rfl,rfl,rfl⟩
   case round=>
    obtain⟨rfl,rfl,rfl⟩:=hrel
    go_wp2_with fail
    go_ret
    exact⟨rfl,HB.out⟩
end
end Go.Proofs.YtiganlkabilblaaGreatDoor
namespace Go.Proofs.YtiganlkabilblaaGreatDoor
open Go.ChangeShapes Go.WideShapes Go.ChangeAt Go.RowKit Go.Deep
def Vb (w:World) (a:Option Addr) (len:Nat):Prop:=∀ k,k<len→∃ (b f:Nat) (kd r:Int) (t s:ByteArray),a=some ⟨b,f,none⟩∧b<w.heap.size∧w.cell? ⟨b,f+k * 4,none⟩=some (.int .i64 kd)∧w.cell? ⟨b,f+k * 4+1,none⟩=some (.int .i64 r)∧w.cell? ⟨b,f+k * 4+2,none⟩=some (.string t)∧w.cell? ⟨b,f+k * 4+3,none⟩=some (.string s)∧(-9223372036854775808≤kd∧kd≤9223372036854775807)∧(-9223372036854775808≤r∧r≤9223372036854775807)∧t.size≤maxLen∧s.size≤281474976710656
theorem zdj {H:Type} {P:Program} {e:TypeId} {d:DataW H} {n:Nat} (hn:n ∈ d.weights P e):∀ {l:List (DataW H)},d ∈ l→n ∈ DataW.weightsAll P e l
 | [],h=>by cases h
 | x::l,h=>by
  simp only[DataW.weightsAll,List.mem_append]
  rcases List.mem_cons.1 h with rfl | h
  ·exact .inl hn
  ·exact .inr (zdj hn h)
theorem zh4:Tryz.prog.bytesOf 100=48:=by kernel_rfl
theorem zbY:Tryz.prog.cellsOf 100=4:=by kernel_rfl
theorem zh1 {H:Type} {enc:TypeId × Value→H} {W:World} {fuel:Nat} {a0:Option Addr} {len cap:Nat} {x:DataW H × List MemPlace} (h:DataW.trod enc Tryz.prog W 0 (fun _=>true) true fuel 38 [.slice a0 len cap]=some x) {ts:List TypeId} {ds:List (DataW H)}
  (hw:(DataW.weightsEach Tryz.prog (38::ts) (x.1::ds)).all (·≤reachBytes)=true):Vb W a0 len∧len≤2932031007402:=by
 rcases open_slice Tryz.underlying38 h with ⟨hcs,_⟩ | ⟨a,len',cap',m,n,D,Pl,hcs,_,hl,hm,hmm,hx,hall⟩
 ·simp at hcs
  obtain⟨rfl,rfl,rfl⟩:=hcs
  exact⟨fun k hk=>by omega,by omega⟩
 ·simp at hcs
  obtain⟨rfl,rfl,rfl⟩:=hcs
  simp only[if_true] at hmm
  subst hmm
  have hW:∀ n ∈ DataW.weights Tryz.prog 38 x.1,n≤reachBytes:=fun n hn=>by
   have:=List.all_eq_true.1 hw n (by simp only[DataW.weightsEach,List.mem_append];exact .inl hn)
   simpa using this
  rw[hx] at hW
  simp only[DataW.weights,Tryz.underlying38,List.length_map,List.length_range,zh4,List.mem_cons,List.mem_append] at hW
  constructor
  ·intro k hk
   have hsp:a.spot=none:=by
    obtain⟨cs0,h1,_⟩:=hall 0 (by omega)
    rw[zbY] at h1
    obtain⟨_,hlen,hcell⟩:=World.cells?_some h1
    have e0:=hcell 0 (by omega)
    match cs0,hlen with
    | [v0,v1,v2,v3],_=>
     have:W.cell? a=some v0:=by simpa [Addr.add] using e0
     exact World.cell?_spot this
   obtain⟨cs',h1,h2⟩:=hall k (by omega)
   rw[zbY] at h1
   obtain⟨_,hlen,hcell⟩:=World.cells?_some h1
   obtain⟨xs,q,hq,hxy,_,hxl,hf⟩:=DataW.trod_struct Tryz.underlying100 h2
   match xs,hxl,cs',hlen with
   | [y0,y1,y2,y3],_,[v0,v1,v2,v3],_=>
    have g0:=hf 0 _ rfl
    have g1:=hf 1 _ rfl
    have g2:=hf 2 _ rfl
    have g3:=hf 3 _ rfl
    have c1:Tryz.prog.cellsOf 3=1:=by kernel_rfl
    have c2:Tryz.prog.cellsOf 9=1:=by kernel_rfl
    simp[c1,c2] at g0 g1 g2 g3
    have e0:=hcell 0 (by omega)
    have e1:=hcell 1 (by omega)
    have e2:=hcell 2 (by omega)
    have e3:=hcell 3 (by omega)
    rw[add_add] at e0 e1 e2 e3
    obtain⟨b,f,sp⟩:=a
    simp only at hsp
    subst hsp
    rw[add_plain] at e0 e1 e2 e3
    obtain⟨kd,h0,y0e,w0⟩:=DataW.trod_int Tryz.underlying3 g0
    obtain⟨r,h1',y1e,w1⟩:=DataW.trod_int Tryz.underlying3 g1
    obtain⟨t,h2',y2e,w2⟩:=DataW.trod_string Tryz.underlying9 g2
    obtain⟨s,h3',y3e,w3⟩:=DataW.trod_string Tryz.underlying9 g3
    simp only[List.cons.injEq,and_true] at h0 h1' h2' h3'
    subst h0 h1' h2' h3' y0e y1e y2e y3e
    have hD:D k = .agg [.lit (.int .i64 kd),.lit (.int .i64 r),.lit (.string t.data.toList),.lit (.string s.data.toList)]:=by simpa using (Prod.mk.inj hxy).1
    have hmem:D k ∈ (List.range len).map D:=List.mem_map.2 ⟨k,List.mem_range.2 hk,rfl⟩
    have hsw:s.data.toList.length≤reachBytes:=hW _ (.inr (.inl (zdj (d:=D k) (by rw[hD];simp[DataW.weights,DataW.weightsEach,Tryz.underlying100]) hmem)))
    have hI:∀ n:Int,(Lit.int .i64 n).wf=true→-9223372036854775808≤n∧n≤9223372036854775807:=by
     intro n hn
     have hw':IntKind.i64.min≤n∧n≤IntKind.i64.max:=by simpa [Lit.wf] using hn
     have e1:IntKind.i64.min = -9223372036854775808:=by decide
     have e2:IntKind.i64.max=9223372036854775807:=by decide
     constructor<;>omega
    refine⟨b,f,kd,r,t,s,rfl,World.block_lt_of_cell? W _ e0,by simpa using e0,by simpa [Nat.add_assoc] using e1,by simpa [Nat.add_assoc] using e2,by simpa [Nat.add_assoc] using e3,hI _ w0,hI _ w1,w2,?_⟩
    have:s.size=s.data.toList.length:=rfl
    unfold reachBytes at hsw
    omega
  ·have:=hW _ (.inl rfl)
   unfold reachBytes at this
   omega
end Go.Proofs.YtiganlkabilblaaGreatDoor
namespace Go.Proofs.YtiganlkabilblaaGreatDoor
open Go.RowKit Thk Go.Lib
attribute [local go_sem ↓] Go.wp_at_zero Go.wp_at_succ
theorem ZA.start (w:World):ZA w w.heap.size (fun _=>0) [] [] (w.alloc (plO (.slice none 0 0) (.slice none 0 0) (.slice none 0 0))):=by
 refine⟨zc _ _,⟨_,_,zk _ _,World.ownsRow_nil _ _ _ _,World.ownsRow_nil _ _ _ _,fun x hx=>by simp[Value.ownBlock] at hx,fun x hx=>by simp[Value.ownBlock] at hx⟩,rfl,Nat.le_refl _,fun i h=>by simp at h,fun i h=>by simp at h⟩
def Plg (w0:World) (yb i:Nat) (w:World):Prop:=∃ o ps nbs,ZA w0 yb o ps nbs w∧ps.length≤i+1∧nbs.length≤i
theorem Plg.below {w0 w w':World} {yb i:Nat} (h:Plg w0 yb i w) (hb:Below w.heap.size w w'):Plg w0 yb i w':=by
 obtain⟨o,ps,nbs,h1,h2,h3⟩:=h
 exact⟨o,ps,nbs,h1.below hb,h2,h3⟩
theorem Plg.le {w0 w:World} {yb i j:Nat} (h:Plg w0 yb i w) (hij:i≤j):Plg w0 yb j w:=by
 obtain⟨o,ps,nbs,h1,h2,h3⟩:=h
 exact⟨o,ps,nbs,h1,by omega,by omega⟩
theorem zc6 {w0 w:World} {yb i:Nat} (h:Plg w0 yb i w) (hg:QD w0) (hi:i≤4000000000000) (kd r:Int) (t s:ByteArray) (hk : 1≤kd∧kd≤5) (hr:i64 r) (ht:t.size≤maxLen) (hs:s.size≤281474976710656) :
  Calls Tryz.prog 50 #[z9 yb,.agg #[.int .i64 kd,.int .i64 r,.string t,.string s]] w fun e w'=>e = .returned (.bool true)∧Plg w0 yb (i+1) w':=by
 obtain⟨o,ps,nbs,h1,h2,h3⟩:=h
 refine (ziW h1 hg kd r t s hk hr ht hs (by omega) (by omega)).mono ?_
 rintro e w' ⟨rfl,o',ps',nbs',p1,p2,p3⟩
 exact⟨rfl,o',ps',nbs',p1,by omega,by omega⟩
theorem zhj {w0 w:World} {yb i:Nat} (h:Plg w0 yb i w) (hi:i≤4000000000000) :
  Calls Tryz.prog 51 #[.pointer (some ⟨yb,1,none⟩)] w fun e w'=>e = .returned (.bool true)∧Plg w0 yb i w':=by
 obtain⟨o,ps,nbs,h1,h2,h3⟩:=h
 refine (zjx h1 (by omega)).mono ?_
 rintro e w' ⟨rfl,hb⟩
 exact⟨rfl,o,ps,nbs,h1.below hb,h2,h3⟩
theorem Plg.bel {w0 w:World} {yb i:Nat} (h:Plg w0 yb i w):Below w0.heap.size w0 w:=by
 obtain⟨o,ps,nbs,h1,_⟩:=h
 exact h1.bel
theorem Plg.ylt {w0 w:World} {yb i:Nat} (h:Plg w0 yb i w):yb<w.heap.size:=by
 obtain⟨o,ps,nbs,h1,_⟩:=h
 obtain⟨_,_,e,_⟩:=h1.ex
 exact zd e
theorem zhi (w:World) (a:Option Addr) (len cap kb:Nat) (hS:Vb w a len) (hlen:len≤2932031007402) (hkl:kb<w.heap.size) (hk0:w.cell? ⟨kb,0,none⟩=some (.int .i64 1)) (hk1:w.cell? ⟨kb,1,none⟩=some (.int .i64 2)) (hk2:w.cell? ⟨kb,2,none⟩=some (.int .i64 3)) (hk3:w.cell? ⟨kb,3,none⟩=some (.int .i64 4)) (hk4:w.cell? ⟨kb,4,none⟩=some (.int .i64 5)) (hg:QD w) :
  Calls Tryz.prog 22 #[.slice a len cap,.slice (some ⟨kb,0,none⟩) 5 5] w fun e w'=>e = .returned (.bool true)∧Below w.heap.size w w':=by
 have HST0:=z6 (zc6 (i:=0) ⟨_,_,_,ZA.start w,by simp,by simp⟩ hg (by omega) 1 0 zf5 ⟨#[]⟩ (by omega) (by unfold i64;omega) (by decide) (by decide))
 have HK:Hid (∀ j:Nat,j<5→w.cell? ⟨kb,j,none⟩=some (.int .i64 (j+1))):=z6 (fun j hj=>by
  have h5:j=0∨j=1∨j=2∨j=3∨j=4:=by omega
  rcases h5 with rfl | rfl | rfl | rfl | rfl
  ·exact hk0
  ·exact hk1
  ·exact hk2
  ·exact hk3
  ·exact hk4)
 have HS:=z6 hS
 have HG:=z6 hg
 clear hS hg hk0 hk1 hk2 hk3 hk4
 go_enter Tryz.func22,Tryz.ntmps22
 go_wp2_with fail
 refine HST0.out.mono ?_
 rintro _ w1 ⟨rfl,hp1⟩
 have HP1:=z6 hp1
 clear HST0 hp1
 go_wp2_with fail
 go_loopg [6,7] len (fun m v6 v7 wr=>∃ i:Nat,m=len - i∧v6 = .bool true∧v7 = .int .i64 i∧i≤len∧Hid (Plg w w.heap.size (i+1) wr))
 case atStart=>exact⟨0,by omega,rfl,rfl,by omega,HP1⟩
 case round=>
  obtain⟨i,rfl,rfl,rfl,hi,HP⟩:=hrel
  have hbel:=HP.out.bel
  have hyl:=HP.out.ylt
  have hz:=hbel.size
  have HB:=z6 hbel
  clear hbel HP1
  by_cases hlt:i<len
  ·have hlt':(i:Int)<len:=by omega
   obtain⟨sb,sf,kd,r,t,s,rfl,hsl,s0,s1,s2,s3,hkd,hr,ht,hs⟩:=HS.out i hlt
   have hsl2:sb<wr.heap.size:=by omega
   have c0:wr.cell? ⟨sb,sf+i * 4,none⟩=some (.int .i64 kd):=by rw[HB.out.cell (p:=⟨sb,sf+i * 4,none⟩) hsl];exact s0
   have c1:wr.cell? ⟨sb,sf+i * 4+1,none⟩=some (.int .i64 r):=by rw[HB.out.cell (p:=⟨sb,sf+i * 4+1,none⟩) hsl];exact s1
   have c2:wr.cell? ⟨sb,sf+i * 4+2,none⟩=some (.string t):=by rw[HB.out.cell (p:=⟨sb,sf+i * 4+2,none⟩) hsl];exact s2
   have c3:wr.cell? ⟨sb,sf+i * 4+3,none⟩=some (.string s):=by rw[HB.out.cell (p:=⟨sb,sf+i * 4+3,none⟩) hsl];exact s3
   have hkl2:kb<wr.heap.size:=by omega
   clear s0 s1 s2 s3
   go_wp2_with fail
   go_loopg [8,9] 5 (fun m v8 v9 wx=>∃ j q:Nat,m=5 - j∧v8 = .bool (decide (1≤kd∧kd≤j))∧v9 = .int .i64 j∧j≤5∧wx=wr.drewN q)
   case atStart=>exact⟨0,0,by omega,by simp;omega,rfl,by omega,rfl⟩
   case round=>
    obtain⟨j,q,rfl,rfl,rfl,hj,rfl⟩:=hrel
    by_cases hjl:j<5
    ·have hjl':(j:Int)<5:=by omega
     have kj:wr.cell? ⟨kb,j,none⟩=some (.int .i64 (j+1)):=by rw[HB.out.cell (p:=⟨kb,j,none⟩) hkl];exact HK.out j hjl
     by_cases hin : 1≤kd∧kd≤j
     ·simp only[hin,and_self,decide_true]
      go_wp2_with fail
      go_quiet (fail)
      go_wp2_with fail
      go_roundg (5 - (j+1))
      case measure=>omega
      case rel=>exact⟨j+1,_,rfl,by congr 1;simp;omega,by go_num,by omega,rfl⟩
     ·have hin':decide (1≤kd∧kd≤(j:Int))=false:=by simpa using hin
      simp only[hin']
      go_wp2_with fail
      go_quiet (fail)
      go_wp2_with fail
      go_roundg (5 - (j+1))
      case measure=>omega
      case rel=>exact⟨j+1,_,rfl,by congr 1;rw[Bool.eq_iff_iff];simp only[beq_iff_eq,decide_eq_true_eq];omega,by go_num,by omega,rfl⟩
    ·have hjl':¬ (j:Int)<5:=by omega
     have hj5:j=5:=by omega
     subst hj5
     by_cases hin : 1≤kd∧kd≤5
     ·have hin':decide (1≤kd∧kd≤((5:Nat):Int))=true:=by simpa using hin
      simp only[hin']
      have HSTP:Hid (∀ W:World,Below wr.heap.size wr W→Calls Tryz.prog 50 #[z9 w.heap.size,.agg #[.int .i64 kd,.int .i64 r,.string t,.string s]] W fun e w'=>e = .returned (.bool true)∧Plg w w.heap.size (i+1+1) w'):=z6 (fun W hW=>zc6 (HP.out.below hW) HG.out (by omega) kd r t s hin (by unfold i64;omega) ht hs)
      go_wp2_with fail
      refine (HSTP.out _ (below_drewN (Below.refl _ _) _)).mono ?_
      rintro _ w2 ⟨rfl,hp2⟩
      have hy2:=hp2.ylt
      have HW:=z6 (zhj hp2 (by omega))
      clear HSTP hp2 c0 c1 c2 c3
      go_wp2_with fail
      refine HW.out.mono ?_
      rintro _ w3 ⟨rfl,hp3⟩
      have HP3:=z6 hp3
      clear HW hp3
      go_wp2_with fail
      go_roundg (len - (i+1))
      case measure=>omega
      case rel=>exact⟨i+1,rfl,rfl,by go_num,by omega,HP3⟩
     ·have hin':decide (1≤kd∧kd≤((5:Nat):Int))=false:=by simpa using hin
      simp only[hin']
      have HP3:Hid (Plg w w.heap.size (i+1+1) (wr.drewN q)):=z6 ((HP.out.below (below_drewN (Below.refl _ _) _)).le (by omega))
      go_wp2_with fail
      go_roundg (len - (i+1))
      case measure=>omega
      case rel=>exact⟨i+1,rfl,rfl,by go_num,by omega,HP3⟩
  ·have hlt':¬ (i:Int)<len:=by omega
   go_wp2_with fail
   go_ret
   exact⟨rfl,HB.out⟩
theorem zhE (w:World) (a:Option Addr) (len cap:Nat) (hS:Vb w a len) (hlen:len≤2932031007402) (hg:QD w) :
  Calls Tryz.prog 8 #[.slice a len cap] w fun e w'=>e = .returned (.bool true)∧Below w.heap.size w w':=by
 have hb:=zc w (.cells #[.int .i64 1,.int .i64 2,.int .i64 3,.int .i64 4,.int .i64 5] 3)
 have hblk:=zk w (.cells #[.int .i64 1,.int .i64 2,.int .i64 3,.int .i64 4,.int .i64 5] 3)
 have hS':Vb (w.alloc (.cells #[.int .i64 1,.int .i64 2,.int .i64 3,.int .i64 4,.int .i64 5] 3)) a len:=fun k hk=>by
  obtain⟨b,f,kd,r,t,s,e1,e2,e3,e4,e5,e6,e7⟩:=hS k hk
  exact⟨b,f,kd,r,t,s,e1,by simp;omega,by rw[hb.cell (p:=⟨b,f+k * 4,none⟩) e2];exact e3,by rw[hb.cell (p:=⟨b,f+k * 4+1,none⟩) e2];exact e4,by rw[hb.cell (p:=⟨b,f+k * 4+2,none⟩) e2];exact e5,by rw[hb.cell (p:=⟨b,f+k * 4+3,none⟩) e2];exact e6,e7⟩
 have HP:=z6 (zhi _ a len cap w.heap.size hS' hlen (by simp) (z8 hblk 0) (z8 hblk 1) (z8 hblk 2) (z8 hblk 3) (z8 hblk 4) (hg.below hb))
 have HB:=z6 hb
 clear hb hblk hS hS' hg
 go_enter Tryz.func8,Tryz.ntmps8
 go_wp2_with fail
 refine HP.out.mono ?_
 rintro _ w1 ⟨rfl,hb1⟩
 have HB1:=z6 (HB.out.trans (hb1.mono HB.out.size))
 clear HP hb1
 go_wp2_with fail
 go_ret
 exact⟨rfl,HB1.out⟩
end Go.Proofs.YtiganlkabilblaaGreatDoor
