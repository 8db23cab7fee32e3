import Derived.Test.YtiganlkabilblaaGreatDoorVL30
import Derived.Test.YtiganlkabilblaaGreatDoorVL39
import Derived.BigQuiet
import Derived.Test.YtiganlkabilblaaGreatDoorVL14
import Derived.Test.YtiganlkabilblaaGreatDoorVL13
import Derived.Laws.AppendOwnNone
import Derived.Deep.Upon
import Derived.Deep.RegionHeldLaw
import Derived.Deep.CutRange
import Derived.Deep.AppendLies
import Derived.Laws.BytesString
import Derived.Deep.RegionHeld
import Derived.Test.YtiganlkabilblaaGreatDoorVL33
import Derived.Test.YtiganlkabilblaaGreatDoorVL35
import Derived.Test.YtiganlkabilblaaGreatDoorVL37
set_option linter.all false
set_option maxHeartbeats 64000000
set_option maxRecDepth 100000
namespace Go.Proofs.YtiganlkabilblaaGreatDoor
open Go.RowKit Thk
attribute [local go_sem ↓] Go.wp_at_zero Go.wp_at_succ
theorem zlp (t s:ByteArray) (w:World) (hs:t.size≤maxLen) (hs2:s.size≤maxLen) (hg:QD w) :
  Calls Tryz.prog 29 #[.string t,.string s] w fun e w'=>qF t.data.toList s w e w':=by
 have htk:=zkv t s w hs hs2 hg
 go_enter Tryz.func29,Tryz.ntmps29
 go_wp2_with fail
 refine htk.mono ?_
 rintro e w1 ⟨hb,res,hP,hE⟩
 have hz:=hb.size
 have HB:=z6 hb
 have HP:=z6 hP
 clear htk hb hP hg
 cases res with
 | error x=>
  obtain⟨er,p⟩:=x
  obtain⟨h0,rfl⟩:=hE
  simp only[J1]
  go_wp2_with fail
  go_ret2
  exact⟨HB.out.alloc hz _,_,_,rfl,.error (er,p),HP.out,rfl,rfl⟩
 | ok y=>
  obtain⟨g,E⟩:=y
  obtain⟨hgl,hE⟩:=hE
  by_cases hlong : 200<s.size
  ·rw[if_pos hlong] at hE
   subst hE
   simp only[J1]
   go_wp2_with fail
   go_ret2
   refine⟨HB.out.alloc hz _,_,_,rfl,.ok (g,E),HP.out,?_⟩
   simp only[]
   rw[if_pos hlong]
   exact⟨rfl,rfl⟩
  ·rw[if_neg hlong] at hE
   obtain⟨o,ho,rfl⟩:=hE
   have hgp:=HP.out.ends.pos
   cases o with
   | none=>
    have HO:=z6 ho
    simp only[J1,Option.isSome_none]
    clear ho
    go_wp2_with fail
    go_ret2
    refine⟨HB.out.alloc hz _,_,_,rfl,.ok (g,E),HP.out,?_⟩
    simp only[]
    rw[if_neg hlong]
    exact⟨none,HO.out,rfl,rfl⟩
   | some x=>
    obtain⟨e1,m⟩:=x
    have hsm:=qj HP.out.ends hgl (show s.data.toList.length≤200 by show s.size≤200;omega) ho
    simp only[] at hsm
    have hwf:wfN m:=(ho hgp).wf trivial e1 m rfl
    have HC:Hid (∀ O,Calls Tryz.prog 57 #[.agg #[.int .i64 ((0:Nat):Int),.int .i64 ((0:Nat):Int),.int .i64 e1,ntV m]] (w1.alloc O) fun e' w2=>∃ a2 n2 c2,e' = .returned (.slice a2 n2 c2)∧Hid (qF t.data.toList s w (.returned (.tuple #[.slice a2 n2 c2,.int .i64 0])) w2)):=z6 (fun O=>(zgO (w1.alloc O) 0 0 e1 m hwf (by omega)).mono (by
     rintro e' w2 ⟨a2,c2,rfl,h1,h2⟩
     refine⟨a2,_,c2,rfl,z6 ⟨(HB.out.alloc hz _).trans (h2.mono (by simp;omega)),_,_,rfl,.ok (g,E),HP.out,?_⟩⟩
     simp only[]
     rw[if_neg hlong]
     exact⟨some (e1,m),ho,by simp,a2,c2,rfl,Zn h1 (by simp;omega)⟩))
    have hnf:=QV m
    simp only[J1,Option.isSome_some]
    clear ho hsm hwf
    generalize ntV m=nv at *
    simp only[Int.natCast_zero] at HC ⊢
    rcases hnf with rfl | ⟨tt,vv,rfl⟩
    all_goals
     go_wp2_with fail
     refine (HC.out _).mono ?_
     rintro _ w2 ⟨a2,n2,c2,rfl,HZ⟩
     clear HC
     go_wp2_with fail
     go_ret2
     exact HZ.out
def Y0 (w:World) (B:Nat) (v:Value) (l:List Nod):Prop:=w.ownsRow B 60 4 v l.length (l.flatMap ZZ)
theorem zgN (ps:List Nod) (i j:Nat) (hi:i<ps.length) (hj:j<4):(ps.flatMap ZZ)[i * 4+j]? = (ZZ ps[i])[j]? := by
 induction ps generalizing i with
 | nil=>simp at hi
 | cons p ps ih=>
  have hl:(ZZ p).length=4:=rfl
  cases i with
  | zero=>
   simp only[List.flatMap_cons,Nat.zero_mul,Nat.zero_add,List.getElem_cons_zero]
   rw[List.getElem?_append_left (by omega)]
  | succ i=>
   simp only[List.flatMap_cons,List.getElem_cons_succ]
   rw[List.getElem?_append_right (by omega),hl,show (i+1) * 4+j - 4=i * 4+j from by omega]
   exact ih i (by simpa using hi)
theorem Y0.gen {w:World} {B:Nat} {v:Value} {l:List Nod} (h:Y0 w B v l):∃ pa pc,v = .slice pa l.length pc∧l.length≤9223372036854775807∧∀ i (hi:i<l.length),∃ pg,pa=some ⟨pg,0,none⟩∧pg<w.heap.size∧w.cell? ⟨pg,i * 4,none⟩=some (.int .i64 l[i].1)∧w.cell? ⟨pg,i * 4+1,none⟩=some (.int .i64 l[i].2.1)∧w.cell? ⟨pg,i * 4+2,none⟩=some (.int .i64 l[i].2.2.1)∧w.cell? ⟨pg,i * 4+3,none⟩=some (.int .i64 l[i].2.2.2):=by
 have h':=h
 rcases h'.2 with ⟨rfl,h0⟩ | ⟨g,cap,cur,rfl,_,hg,h1,h2,_⟩
 ·exact⟨none,0,by rw[h0],by omega,fun j hj=>by omega⟩
 ·have hc:∀ i (hi:i<l.length) j,j<4→w.cell? ⟨g,i * 4+j,none⟩=(ZZ l[i])[j]? := fun i hi j hj=>by
   have:=h.cellAt (g:=g) (i * 4+j) (by omega)
   rw[zgN _ _ _ hi hj] at this;exact this
  exact⟨_,cap,rfl,by unfold maxLen at h2;omega,fun i hi=>⟨g,rfl,za hg,hc i hi 0 (by decide),hc i hi 1 (by decide),hc i hi 2 (by decide),hc i hi 3 (by decide)⟩⟩
theorem Zo.rules20 {l:List UInt8} {g:List ze} {E:List Bool} (h:Zo l (.ok (g,E))):g.length≤20:=by
 cases h with
 | ok h _=>
  obtain⟨_,S',_,hok⟩:=zcf h
  have:=hok.le
  omega
theorem Yw.both {t:List UInt8} {s:ByteArray} {B B2:Nat} {w w2:World} {v c v2 c2:Value} (h:Yw t s B w v c) (h2:Yw t s B2 w2 v2 c2):∃ (L:List Nod) (er:Int),L.length≤5000∧c = .int .i64 er∧c2 = .int .i64 er∧Y0 w B v L∧Y0 w2 B2 v2 L:=by
 obtain⟨res,hP,hE⟩:=h
 obtain⟨res2,hP2,hE2⟩:=h2
 have:=hP.det hP2
 subst this
 cases res with
 | error x=>
  obtain⟨er,p⟩:=x
  obtain⟨rfl,rfl⟩:=hE
  obtain⟨rfl,rfl⟩:=hE2
  exact⟨[],er,by simp,rfl,rfl,World.ownsRow_nil _ _ _ _,World.ownsRow_nil _ _ _ _⟩
 | ok y=>
  obtain⟨g,E⟩:=y
  simp only[] at hE hE2
  by_cases hlong : 200<s.size
  ·rw[if_pos hlong] at hE hE2
   obtain⟨rfl,rfl⟩:=hE
   obtain⟨rfl,rfl⟩:=hE2
   exact⟨[],1,by simp,rfl,rfl,World.ownsRow_nil _ _ _ _,World.ownsRow_nil _ _ _ _⟩
  ·rw[if_neg hlong] at hE hE2
   obtain⟨o,ho,rfl,h1⟩:=hE
   obtain⟨o2,ho2,rfl,h2⟩:=hE2
   have:=(ho hP.ends.pos).det _ (ho2 hP.ends.pos)
   subst this
   cases o with
   | none=>
    subst h1
    subst h2
    exact⟨[],0,by simp,rfl,rfl,World.ownsRow_nil _ _ _ _,World.ownsRow_nil _ _ _ _⟩
   | some x=>
    obtain⟨a,cp,rfl,r1⟩:=h1
    obtain⟨a2,cp2,rfl,r2⟩:=h2
    have hsm:=qj hP.ends hP.rules20 (show s.data.toList.length≤200 by show s.size≤200;omega) ho
    exact⟨K0 x,0,by simp only[K0,List.length_cons,YS];omega,rfl,rfl,r1,r2⟩
theorem Yw.form {t:List UInt8} {s:ByteArray} {B:Nat} {w:World} {v c:Value} (h:Yw t s B w v c):∃ a n cp er,v = .slice a n cp∧c = .int .i64 er:=by
 obtain⟨L,er,_,h1,_,h2,_⟩:=h.both h
 obtain⟨a,cp,h3⟩:=zl h2
 exact⟨a,_,cp,er,h3,h1⟩
end Go.Proofs.YtiganlkabilblaaGreatDoor
namespace Go.Proofs.YtiganlkabilblaaGreatDoor
open Go.RowKit Thk Go.Lib
structure Pr where
 xb:Nat
 cb:Nat
 mb:Nat
 N:List Nd
 bx:List (Nat × Nat × Nat)
 rs:List Nat
 vr:Value
 S:Nat→Prop
 t:ByteArray
 g:List ze
 E:List Bool
 s:ByteArray
 dn:Bool
 iv:Value
def Pr.rd (B:Nat) (w:World) (p:Pr):Prop:=
 if p.dn=true then p.iv = .slice none 0 0∧∃ o,(∀ h : 0<p.g.length,Ev p.g p.s.data.toList (.C p.g[0].choice) 0 o)∧w.heap[p.xb]? = some (rdU p.mb 2 (.slice none 0 0) o)
 else w.heap[p.xb]? = some (ZE p.mb 1 p.iv 0 .nilIface false)∧w.ownsRow B 5 1 p.iv p.s.size (strCells p.s)
end Go.Proofs.YtiganlkabilblaaGreatDoor
namespace Go.Proofs.YtiganlkabilblaaGreatDoor
open Go.RowKit Thk Go.Lib
attribute [local go_sem ↓] Go.wp_at_zero Go.wp_at_succ
theorem zl7 (w:World) (B B2:Nat) (v1 v2:Value) (l:List Nod) (h1:Y0 w B v1 l) (h2:Y0 w B2 v2 l) :
  Calls Tryz.prog 30 #[v1,v2] w fun e w'=>e = .returned (.bool true)∧Below w.heap.size w w':=by
 obtain⟨pa,pc,rfl,hm,hc⟩:=h1.gen
 obtain⟨pb,pd,rfl,_,hd⟩:=h2.gen
 clear h1 h2
 go_enter Tryz.func30,Tryz.ntmps30
 go_wp2_with fail
 go_loopg [5] l.length (fun m v wr=>∃ i q:Nat,m=l.length - i∧v = .int .i64 i∧i≤l.length∧wr=w.drewN q)
 case atStart=>exact⟨0,0,by omega,rfl,by omega,rfl⟩
 case round=>
  obtain⟨i,q,rfl,rfl,hi,rfl⟩:=hrel
  by_cases hlt:i<l.length
  ·have hlt':(i:Int)<l.length:=by omega
   obtain⟨pg,rfl,hpg,c0,c1,c2,c3⟩:=hc i hlt
   obtain⟨qg,rfl,hqg,d0,d1,d2,d3⟩:=hd i hlt
   generalize l[i].1=x0 at *
   generalize l[i].2.1=x1 at *
   generalize l[i].2.2.1=x2 at *
   generalize l[i].2.2.2=x3 at *
   clear hc hd
   go_wp2_with fail
   go_quiet (fail)
   go_wp2_with fail
   go_roundg (l.length - (i+1))
   case measure=>omega
   case rel=>exact⟨i+1,_,rfl,by go_num,by omega,rfl⟩
  ·have hlt':¬ (i:Int)<l.length:=by omega
   go_wp2_with fail
   go_ret
   exact⟨rfl,below_drewN (Below.refl _ _) _⟩
theorem zl5 (x y z:Value) (w:World):(Instr.field 43 (.agg #[x,y,z]) 0).run Tryz.prog w = .ok x w:=by kernel_rfl
theorem zks (s:ByteArray) (w:World) (hs:s.size≤maxLen):Calls Tryz.prog 24 #[.string s] w fun e w'=>∃ s':ByteArray,e = .returned (.string s')∧s'.size≤60∧w'=w:=by
 unfold maxLen at hs
 by_cases h : 60<s.size
 ·have h':(60:Int)<s.size:=by omega
  go_enter Tryz.func24,Tryz.ntmps24
  go_wp2_with fail
  go_ret
  exact⟨_,rfl,by simp[ByteArray.size_extract];omega,rfl⟩
 ·have h':¬ (60:Int)<s.size:=by omega
  go_enter Tryz.func24,Tryz.ntmps24
  go_wp2_with fail
  go_ret
  exact⟨_,rfl,by omega,rfl⟩
section
variable {w0 w : World} {xb : Nat} {T s : ByteArray} {d : Bool}
end
theorem Yw.zero {t:List UInt8} {s:ByteArray} {B:Nat} {w:World} {v c:Value} {y:List ze × List Bool} (h:Yw t s B w v c) (hP:Zo t (.ok y)) (hs:s.size≤200):c = .int .i64 0:=by
 obtain⟨res,hP2,hE⟩:=h
 have:=hP2.det hP
 subst this
 obtain⟨g,E⟩:=y
 simp only[] at hE
 rw[if_neg (by omega)] at hE
 obtain⟨o,_,rfl,_⟩:=hE
 rfl
section
variable {l : List UInt8} {c : Z5} {ee : Bool}
theorem zon (hG:ZU 0 (Qn l) (.ok (gs c))) (ht:Gt c ee) (hl:l.length≤2000) (w:World) (hE:QD w) (T:ByteArray) (hT:T=bs l) :
  Calls Tryz.prog 17 #[.string T] w fun e w'=>e = .returned (.tuple #[.string (bs (prG (gs c))),.int .i64 0])∧Below w.heap.size w w':=by
 subst hT
 refine (zq9 (bs l) w (by rw[zjU];unfold maxLen;omega) hE).mono ?_
 rintro e w' ⟨hb,res,hP,hC⟩
 obtain⟨E,rfl⟩:=zm8 hG ht hl (by simpa [bs] using hP)
 exact⟨hC,hb⟩
theorem zoj (hG:ZU 0 (Qn l) (.ok (gs c))) (ht:Gt c ee) (hl:l.length≤2000) (s:ByteArray) (hs:s.size≤60) (w:World) (hE:QD w) (T:ByteArray) (hT:T=bs l) :
  Calls Tryz.prog 28 #[.string T,.string s] w fun e w'=>Below w.heap.size w w'∧∃ o n,Ev (gs c) s.data.toList (.C c) 0 o∧n=fin o∧e = .returned (.tuple #[.int .i64 (n.getD 0:Nat),.bool n.isSome,.int .i64 0]):=by
 subst hT
 refine (zlo (bs l) s w (by rw[zjU];unfold maxLen;omega) (by unfold maxLen;omega) hE).mono ?_
 intro e w' hp
 obtain⟨hb,a,b,z,rfl,res,hP,hC⟩:=hp.is
 obtain⟨E,rfl⟩:=zm8 hG ht hl (by simpa [bs] using hP)
 simp only[] at hC
 rw[if_neg (by omega)] at hC
 obtain⟨o,ho,rfl,rfl,rfl⟩:=hC
 exact⟨hb,o,_,ho (by show (0:Nat)<3;decide),rfl,rfl⟩
def trL:Out→List Nod
 | none=>[]
 | some x=>K0 x
theorem zpd (hG:ZU 0 (Qn l) (.ok (gs c))) (ht:Gt c ee) (hl:l.length≤2000) (s:ByteArray) (hs:s.size≤60) (w:World) (hE:QD w) (T:ByteArray) (hT:T=bs l) :
  Calls Tryz.prog 29 #[.string T,.string s] w fun e w'=>Below w.heap.size w w'∧∃ o a cp,Ev (gs c) s.data.toList (.C c) 0 o∧e = .returned (.tuple #[.slice a (trL o).length cp,.int .i64 0])∧Y0 w' w.heap.size (.slice a (trL o).length cp) (trL o):=by
 subst hT
 refine (zlp (bs l) s w (by rw[zjU];unfold maxLen;omega) (by unfold maxLen;omega) hE).mono ?_
 rintro e w' ⟨hb,v,z,rfl,res,hP,hC⟩
 obtain⟨E,rfl⟩:=zm8 hG ht hl (by simpa [bs] using hP)
 simp only[] at hC
 rw[if_neg (by omega)] at hC
 obtain⟨o,ho,rfl,hv⟩:=hC
 have ho':Ev (gs c) s.data.toList (.C c) 0 o:=ho (by show (0:Nat)<3;decide)
 cases o with
 | none=>
  simp only[] at hv
  subst hv
  exact⟨hb,none,none,0,ho',rfl,World.ownsRow_nil _ _ _ _⟩
 | some y=>
  obtain⟨a,cp,rfl,h9⟩:=hv
  exact⟨hb,some y,a,cp,ho',rfl,h9⟩
end
end Go.Proofs.YtiganlkabilblaaGreatDoor
