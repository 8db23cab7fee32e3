import Derived.Test.YtiganlkabilblaaGreatDoorVP27
import Derived.Test.YtiganlkabilblaaGreatDoorVP33
import Derived.BigQuiet
import Derived.Test.YtiganlkabilblaaGreatDoorVP26
import Derived.Deep.RegionHeldLaw
import Derived.Deep.CutRange
import Derived.Deep.AppendLies
import Derived.Deep.RegionHeld
set_option linter.all false
set_option maxHeartbeats 64000000
set_option maxRecDepth 100000
namespace Go.Proofs.YtiganlkabilblaaGreatDoor
open Go.RowKit Thk
attribute [local go_sem ↓] Go.wp_at_zero Go.wp_at_succ
theorem zlp (t s:ByteArray) (w:World) (hs:t.size≤maxLen) (hs2:s.size≤maxLen) (hg:QD w) :
  Calls Tryz.prog 29 #[.string t,.string s] w fun e w'=>qF t.data.toList s w e w':=by
 have htk:=zkv t s w hs hs2 hg
 go_enter Tryz.func29,Tryz.ntmps29
 go_wp2_with fail
 refine htk.mono ?_
 rintro e w1 ⟨hb,res,hP,hE⟩
 have hz:=hb.size
 have HB:=z6 hb
 have HP:=z6 hP
 clear htk hb hP hg
 cases res with
 | error x=>
  obtain⟨er,p⟩:=x
  obtain⟨h0,rfl⟩:=hE
  simp only[J1]
  go_wp2_with fail
  go_ret2
  exact⟨HB.out.alloc hz _,_,_,rfl,.error (er,p),HP.out,rfl,rfl⟩
 | ok y=>
  obtain⟨g,E⟩:=y
  obtain⟨hgl,hE⟩:=hE
  by_cases hlong : 200<s.size
  ·rw[if_pos hlong] at hE
   subst hE
   simp only[J1]
   go_wp2_with fail
   go_ret2
   refine⟨HB.out.alloc hz _,_,_,rfl,.ok (g,E),HP.out,?_⟩
   simp only[]
   rw[if_pos hlong]
   exact⟨rfl,rfl⟩
  ·rw[if_neg hlong] at hE
   obtain⟨o,ho,rfl⟩:=hE
   have hgp:=HP.out.ends.pos
   cases o with
   | none=>
    have HO:=z6 ho
    simp only[J1,Option.isSome_none]
    clear ho
    go_wp2_with fail
    go_ret2
    refine⟨HB.out.alloc hz _,_,_,rfl,.ok (g,E),HP.out,?_⟩
    simp only[]
    rw[if_neg hlong]
    exact⟨none,HO.out,rfl,rfl⟩
   | some x=>
    obtain⟨e1,m⟩:=x
    have hsm:=qj HP.out.ends hgl (show s.data.toList.length≤200 by show s.size≤200;omega) ho
    simp only[] at hsm
    have hwf:wfN m:=(ho hgp).wf trivial e1 m rfl
    have HC:Hid (∀ O,Calls Tryz.prog 57 #[.agg #[.int .i64 ((0:Nat):Int),.int .i64 ((0:Nat):Int),.int .i64 e1,ntV m]] (w1.alloc O) fun e' w2=>∃ a2 n2 c2,e' = .returned (.slice a2 n2 c2)∧Hid (qF t.data.toList s w (.returned (.tuple #[.slice a2 n2 c2,.int .i64 0])) w2)):=z6 (fun O=>(zgO (w1.alloc O) 0 0 e1 m hwf (by omega)).mono (by
     rintro e' w2 ⟨a2,c2,rfl,h1,h2⟩
     refine⟨a2,_,c2,rfl,z6 ⟨(HB.out.alloc hz _).trans (h2.mono (by simp;omega)),_,_,rfl,.ok (g,E),HP.out,?_⟩⟩
     simp only[]
     rw[if_neg hlong]
     exact⟨some (e1,m),ho,by simp,a2,c2,rfl,Zn h1 (by simp;omega)⟩))
    have hnf:=QV m
    simp only[J1,Option.isSome_some]
    clear ho hsm hwf
    generalize ntV m=nv at *
    simp only[Int.natCast_zero] at HC ⊢
    rcases hnf with rfl | ⟨tt,vv,rfl⟩
    all_goals
     go_wp2_with fail
     refine (HC.out _).mono ?_
     rintro _ w2 ⟨a2,n2,c2,rfl,HZ⟩
     clear HC
     go_wp2_with fail
     go_ret2
     exact HZ.out
def Y0 (w:World) (B:Nat) (v:Value) (l:List Nod):Prop:=w.ownsRow B 60 4 v l.length (l.flatMap ZZ)
theorem zgN (ps:List Nod) (i j:Nat) (hi:i<ps.length) (hj:j<4):(ps.flatMap ZZ)[i * 4+j]? = (ZZ ps[i])[j]? := by
 induction ps generalizing i with
 | nil=>simp at hi
 | cons p ps ih=>
  have hl:(ZZ p).length=4:=rfl
  cases i with
  | zero=>
   simp only[List.flatMap_cons,Nat.zero_mul,Nat.zero_add,List.getElem_cons_zero]
   rw[List.getElem?_append_left (by omega)]
  | succ i=>
   simp only[List.flatMap_cons,List.getElem_cons_succ]
   rw[List.getElem?_append_right (by omega),hl,show (i+1) * 4+j - 4=i * 4+j from by omega]
   exact ih i (by simpa using hi)
theorem Y0.gen {w:World} {B:Nat} {v:Value} {l:List Nod} (h:Y0 w B v l):∃ pa pc,v = .slice pa l.length pc∧l.length≤9223372036854775807∧∀ i (hi:i<l.length),∃ pg,pa=some ⟨pg,0,none⟩∧pg<w.heap.size∧w.cell? ⟨pg,i * 4,none⟩=some (.int .i64 l[i].1)∧w.cell? ⟨pg,i * 4+1,none⟩=some (.int .i64 l[i].2.1)∧w.cell? ⟨pg,i * 4+2,none⟩=some (.int .i64 l[i].2.2.1)∧w.cell? ⟨pg,i * 4+3,none⟩=some (.int .i64 l[i].2.2.2):=by
 have h':=h
 rcases h'.2 with ⟨rfl,h0⟩ | ⟨g,cap,cur,rfl,_,hg,h1,h2,_⟩
 ·exact⟨none,0,by rw[h0],by omega,fun j hj=>by omega⟩
 ·have hc:∀ i (hi:i<l.length) j,j<4→w.cell? ⟨g,i * 4+j,none⟩=(ZZ l[i])[j]? := fun i hi j hj=>by
   have:=h.cellAt (g:=g) (i * 4+j) (by omega)
   rw[zgN _ _ _ hi hj] at this;exact this
  exact⟨_,cap,rfl,by unfold maxLen at h2;omega,fun i hi=>⟨g,rfl,za hg,hc i hi 0 (by decide),hc i hi 1 (by decide),hc i hi 2 (by decide),hc i hi 3 (by decide)⟩⟩
end Go.Proofs.YtiganlkabilblaaGreatDoor
namespace Go.Proofs.YtiganlkabilblaaGreatDoor
open Go.RowKit Thk
section
variable {w0 : World} {P : Nat → Prop} {zb m : Nat} {ao : Option Addr} {b n cap : Nat} {olds : List Value}
theorem GrW.look {w w':World} {b cap:Nat} {O:Option Obj} {k:Nat} (h:GrW w w' (fun x=>x=b∧0<cap)) (hk:k<w.heap.size) (hb:¬ (k=b∧0<cap)) (ho:w.heap[k]? = O):w'.heap[k]? = O:=(h.block k hk hb).trans ho
end
section
variable {w0 : World} {P : Nat → Prop} {zb m nb n : Nat} {A : Nat → Option Addr} {C : Nat → Nat}
theorem GrW.drew {w w':World} {row:Nat→Prop} (h:GrW w w' row):GrW w w'.drew row:=⟨h.os,h.tape,h.output,h.size,h.block⟩
end
end Go.Proofs.YtiganlkabilblaaGreatDoor
namespace Go.Proofs.YtiganlkabilblaaGreatDoor
open Go.RowKit Thk
attribute [local go_sem ↓] Go.wp_at_zero Go.wp_at_succ
theorem Zo.rules20 {l:List UInt8} {g:List ze} {E:List Bool} (h:Zo l (.ok (g,E))):g.length≤20:=by
 cases h with
 | ok h _=>
  obtain⟨_,S',_,hok⟩:=zcf h
  have:=hok.le
  omega
theorem Yw.both {t:List UInt8} {s:ByteArray} {B B2:Nat} {w w2:World} {v c v2 c2:Value} (h:Yw t s B w v c) (h2:Yw t s B2 w2 v2 c2):∃ (L:List Nod) (er:Int),L.length≤5000∧c = .int .i64 er∧c2 = .int .i64 er∧Y0 w B v L∧Y0 w2 B2 v2 L:=by
 obtain⟨res,hP,hE⟩:=h
 obtain⟨res2,hP2,hE2⟩:=h2
 have:=hP.det hP2
 subst this
 cases res with
 | error x=>
  obtain⟨er,p⟩:=x
  obtain⟨rfl,rfl⟩:=hE
  obtain⟨rfl,rfl⟩:=hE2
  exact⟨[],er,by simp,rfl,rfl,World.ownsRow_nil _ _ _ _,World.ownsRow_nil _ _ _ _⟩
 | ok y=>
  obtain⟨g,E⟩:=y
  simp only[] at hE hE2
  by_cases hlong : 200<s.size
  ·rw[if_pos hlong] at hE hE2
   obtain⟨rfl,rfl⟩:=hE
   obtain⟨rfl,rfl⟩:=hE2
   exact⟨[],1,by simp,rfl,rfl,World.ownsRow_nil _ _ _ _,World.ownsRow_nil _ _ _ _⟩
  ·rw[if_neg hlong] at hE hE2
   obtain⟨o,ho,rfl,h1⟩:=hE
   obtain⟨o2,ho2,rfl,h2⟩:=hE2
   have:=(ho hP.ends.pos).det _ (ho2 hP.ends.pos)
   subst this
   cases o with
   | none=>
    subst h1
    subst h2
    exact⟨[],0,by simp,rfl,rfl,World.ownsRow_nil _ _ _ _,World.ownsRow_nil _ _ _ _⟩
   | some x=>
    obtain⟨a,cp,rfl,r1⟩:=h1
    obtain⟨a2,cp2,rfl,r2⟩:=h2
    have hsm:=qj hP.ends hP.rules20 (show s.data.toList.length≤200 by show s.size≤200;omega) ho
    exact⟨K0 x,0,by simp only[K0,List.length_cons,YS];omega,rfl,rfl,r1,r2⟩
theorem Yw.form {t:List UInt8} {s:ByteArray} {B:Nat} {w:World} {v c:Value} (h:Yw t s B w v c):∃ a n cp er,v = .slice a n cp∧c = .int .i64 er:=by
 obtain⟨L,er,_,h1,_,h2,_⟩:=h.both h
 obtain⟨a,cp,h3⟩:=zl h2
 exact⟨a,_,cp,er,h3,h1⟩
theorem GrW.belowOf {w w':World} {row:Nat→Prop} {B:Nat} (h:GrW w w' row) (hB:B≤w.heap.size) (hr:∀ x,row x→B≤x):Below B w w':=⟨h.os,h.tape,h.output,h.size,fun k hk=>h.block k (by omega) (fun hx=>by have:=hr k hx;omega)⟩
end Go.Proofs.YtiganlkabilblaaGreatDoor
namespace Go.Proofs.YtiganlkabilblaaGreatDoor
open Go.RowKit Thk Go.Lib
structure Pr where
 xb:Nat
 cb:Nat
 mb:Nat
 N:List Nd
 bx:List (Nat × Nat × Nat)
 rs:List Nat
 vr:Value
 S:Nat→Prop
 t:ByteArray
 g:List ze
 E:List Bool
 s:ByteArray
 dn:Bool
 iv:Value
def Pr.rd (B:Nat) (w:World) (p:Pr):Prop:=
 if p.dn=true then p.iv = .slice none 0 0∧∃ o,(∀ h : 0<p.g.length,Ev p.g p.s.data.toList (.C p.g[0].choice) 0 o)∧w.heap[p.xb]? = some (rdU p.mb 2 (.slice none 0 0) o)
 else w.heap[p.xb]? = some (ZE p.mb 1 p.iv 0 .nilIface false)∧w.ownsRow B 5 1 p.iv p.s.size (strCells p.s)
theorem GrW.trans {a b c:World} {row:Nat→Prop} (h:GrW a b row) (k:GrW b c row):GrW a c row:=⟨k.os.trans h.os,k.tape.trans h.tape,k.output.trans h.output,Nat.le_trans h.size k.size,fun x hx hr=>(k.block x (Nat.lt_of_lt_of_le hx h.size) hr).trans (h.block x hx hr)⟩
theorem GrW.imp {a b:World} {row row':Nat→Prop} (h:GrW a b row) (hi:∀ x,row x→row' x):GrW a b row':=⟨h.os,h.tape,h.output,h.size,fun x hx hr=>h.block x hx (fun e=>hr (hi x e))⟩
theorem GrW.refl (a:World) (row:Nat→Prop):GrW a a row:=⟨rfl,rfl,rfl,Nat.le_refl _,fun _ _ _=>rfl⟩
theorem KpM.grw {rbs:List Nat} {a b:World} {row:Nat→Prop} (h:KpM rbs a.heap.size a b) (hi:∀ x,x ∈ rbs→row x):GrW a b row:=⟨h.os,h.tape,h.output,h.size,fun x hx hr=>h.block x hx (fun e=>hr (hi x e))⟩
end Go.Proofs.YtiganlkabilblaaGreatDoor
namespace Go.Proofs.YtiganlkabilblaaGreatDoor
open Go.RowKit Thk Go.Lib
attribute [local go_sem ↓] Go.wp_at_zero Go.wp_at_succ
theorem zh8 {w:World} {rb mb B:Nat} {c:Int} {iv nv:Value} {ok:Bool} {s:ByteArray} {N:List Nd} {bx:List (Nat × Nat × Nat)} {rs:List Nat} {vr:Value} {S:Nat→Prop} {g:List ze}
  (h:w.heap[rb]? = some (ZE mb 1 iv c nv ok)) (hs:s.size≤200) (hown:w.ownsRow B 5 1 iv s.size (strCells s)) (hM:Jv w mb N bx rs vr S) (hb:w.heap[mb]? = some (Zz vr ⟨#[]⟩ (.map none) .nilIface))
  (hR:DnR N rs g) (hg : 0<g.length) (hgl:g.length≤20) (o:Out) (ho:Ev g s.data.toList (.C g[0].choice) 0 o) (hoe:zN o≤1000000) (hnm:rb≠mb) :
  Calls Tryz.prog 35 #[z9 rb] w fun e w'=>e = .returned (.tuple #[.int .i64 (zN o),.bool o.isSome,.int .i64 0])∧w'.heap[rb]? = some (rdU mb 2 (.slice none 0 0) o)∧w'.heap[mb]? = some (Zz vr ⟨#[]⟩ (.map none) .nilIface)∧KpM [rb,mb] w.heap.size w w':=by
 have HI:=z6 (Ke (q:=1) h)
 have hl:=zd h
 have z0:=z8 h
 have H:=z6 h
 have HTK:=z6 (zgB (w:=w.drew) (hM.same (Nat.le_refl _) (fun _ _=>rfl)) hb hR hg hgl (by omega) o ho)
 have HCV:=zcy hown
 have HCD:=zcy (w:=w.drew) (B:=B) (v:=iv) (s:=s) (by exact hown)
 clear h hown hM hb hR ho
 go_enter Tryz.func35,Tryz.ntmps35
 go_wp2_with fail
 refine HI.out.mono ?_
 rintro _ w1 ⟨rfl,rfl⟩
 clear HI
 simp only[decide_true]
 obtain⟨c',nv',hU,hnf⟩:=zjw o
 rw[hU] at HTK
 have HK2:Hid (∀ w2,KpM [mb] w1.drew.heap.size w1.drew w2→w2.heap[rb]? = some (ZE mb 1 iv c nv ok)):=z6 (fun w2 hk=>by rw[hk.block rb hl (by simpa using hnm)];exact H.out)
 have HZF:Hid (∀ w2:World,w2.heap[rb]? = some (ZE mb 1 iv c nv ok)→w2.heap[mb]? = some (Zz vr ⟨#[]⟩ (.map none) .nilIface)→KpM [mb] w1.drew.heap.size w1.drew w2→(((((((w2.setCell ⟨rb,3,none⟩ (.int .i64 0)).setCell ⟨rb,4,none⟩ (.int .i64 0)).setCell ⟨rb,5,none⟩ (.int .i64 c')).setCell ⟨rb,6,none⟩ nv').setCell ⟨rb,7,none⟩ (.bool o.isSome)).setCell ⟨rb,1,none⟩ (.int .u8 2)).setCell ⟨rb,2,none⟩ (.slice none 0 0)).heap[rb]? = some (ZE mb 2 (.slice none 0 0) c' nv' o.isSome)∧(((((((w2.setCell ⟨rb,3,none⟩ (.int .i64 0)).setCell ⟨rb,4,none⟩ (.int .i64 0)).setCell ⟨rb,5,none⟩ (.int .i64 c')).setCell ⟨rb,6,none⟩ nv').setCell ⟨rb,7,none⟩ (.bool o.isSome)).setCell ⟨rb,1,none⟩ (.int .u8 2)).setCell ⟨rb,2,none⟩ (.slice none 0 0)).heap[mb]? = some (Zz vr ⟨#[]⟩ (.map none) .nilIface)∧KpM [rb,mb] w1.heap.size w1 (((((((w2.setCell ⟨rb,3,none⟩ (.int .i64 0)).setCell ⟨rb,4,none⟩ (.int .i64 0)).setCell ⟨rb,5,none⟩ (.int .i64 c')).setCell ⟨rb,6,none⟩ nv').setCell ⟨rb,7,none⟩ (.bool o.isSome)).setCell ⟨rb,1,none⟩ (.int .u8 2)).setCell ⟨rb,2,none⟩ (.slice none 0 0))):=z6 (fun w2 h1 h2 h3=>zeK h1 h2 h3 hnm c' nv' o.isSome)
 have HUO:Hid (∀ iv,rdU mb 2 iv o=ZE mb 2 iv c' nv' o.isSome):=z6 (fun iv=>zhx hU mb 2 iv)
 have HTN:Hid (∀ W:World,Calls Tryz.prog 56 #[.agg #[.int .i64 0,.int .i64 0,.int .i64 c',nv']] W fun e w'=>e = .returned (.int .i64 (zN o))∧Below W.heap.size W w'):=z6 (fun W=>by have:=zj5 o hoe W;rw[hU] at this;exact this)
 clear hU
 rcases hnf with rfl | ⟨tt,vv,rfl⟩
 ·go_wp2_with fail
  go_region_with (go_at_call 60;refine HTK.out.mono ?_;rintro _ w2 ⟨rfl,hm2,hM2,hk2⟩;have hr2:=HK2.out w2 hk2;have y1:=z8 hr2;have y2:=zi hr2;have y3:=za hr2;have HR2:=z6 hr2;have HM2:=z6 hm2;have HKM:=z6 hk2;clear hm2 hM2 hk2 hr2 HTK)
  all_goals
   go_wp2_with fail
   have HZ:=z6 (HZF.out w2 HR2.out HM2.out HKM.out)
   clear y1 y2 y3 HR2 HM2 HKM HK2 z0 H HCV HCD HZF
   generalize (((((((w2.setCell ⟨rb,3,none⟩ (.int .i64 0)).setCell ⟨rb,4,none⟩ (.int .i64 0)).setCell ⟨rb,5,none⟩ (.int .i64 c')).setCell ⟨rb,6,none⟩ .nilIface).setCell ⟨rb,7,none⟩ (.bool o.isSome)).setCell ⟨rb,1,none⟩ (.int .u8 2)).setCell ⟨rb,2,none⟩ (.slice none 0 0))=W5 at *
   have x3:=za HZ.out.1
   have c3:=z8 HZ.out.1 3
   have c4:=z8 HZ.out.1 4
   have c5:=z8 HZ.out.1 5
   have c6:=z8 HZ.out.1 6
   have c7:=z8 HZ.out.1 7
   simp at c3 c4 c5 c6 c7
   go_region_held (fun w'=>w'.cell? ⟨rb,3,none⟩=some (.int .i64 0)∧w'.cell? ⟨rb,4,none⟩=some (.int .i64 0)∧w'.cell? ⟨rb,5,none⟩=some (.int .i64 c')∧w'.cell? ⟨rb,6,none⟩=some .nilIface∧w'.cell? ⟨rb,7,none⟩=some (.bool o.isSome)) (go_keep) (first | (go_at_call 56;refine (HTN.out _).mono ?_;rintro _ w3 ⟨rfl,hb3⟩;have v3:=hb3.cell (p:=⟨rb,3,none⟩) x3;have v4:=hb3.cell (p:=⟨rb,4,none⟩) x3;have v5:=hb3.cell (p:=⟨rb,5,none⟩) x3;have v6:=hb3.cell (p:=⟨rb,6,none⟩) x3;have v7:=hb3.cell (p:=⟨rb,7,none⟩) x3;have HB3:=z6 hb3;clear hb3))
   all_goals go_wp2_with fail
   all_goals go_ret3
   all_goals exact⟨rfl,by rw[HUO.out,HB3.out.block rb x3];exact HZ.out.1,by rw[HB3.out.block mb (zd HZ.out.2.1)];exact HZ.out.2.1,HZ.out.2.2.low ((Below.refl _ W5).drew.trans (HB3.out.mono HZ.out.2.2.size))⟩
 ·go_wp2_with fail
  go_region_with (go_at_call 60;refine HTK.out.mono ?_;rintro _ w2 ⟨rfl,hm2,hM2,hk2⟩;have hr2:=HK2.out w2 hk2;have y1:=z8 hr2;have y2:=zi hr2;have y3:=za hr2;have HR2:=z6 hr2;have HM2:=z6 hm2;have HKM:=z6 hk2;clear hm2 hM2 hk2 hr2 HTK)
  all_goals
   go_wp2_with fail
   have HZ:=z6 (HZF.out w2 HR2.out HM2.out HKM.out)
   clear y1 y2 y3 HR2 HM2 HKM HK2 z0 H HCV HCD HZF
   generalize (((((((w2.setCell ⟨rb,3,none⟩ (.int .i64 0)).setCell ⟨rb,4,none⟩ (.int .i64 0)).setCell ⟨rb,5,none⟩ (.int .i64 c')).setCell ⟨rb,6,none⟩ (.iface tt vv)).setCell ⟨rb,7,none⟩ (.bool o.isSome)).setCell ⟨rb,1,none⟩ (.int .u8 2)).setCell ⟨rb,2,none⟩ (.slice none 0 0))=W5 at *
   have x3:=za HZ.out.1
   have c3:=z8 HZ.out.1 3
   have c4:=z8 HZ.out.1 4
   have c5:=z8 HZ.out.1 5
   have c6:=z8 HZ.out.1 6
   have c7:=z8 HZ.out.1 7
   simp at c3 c4 c5 c6 c7
   go_region_held (fun w'=>w'.cell? ⟨rb,3,none⟩=some (.int .i64 0)∧w'.cell? ⟨rb,4,none⟩=some (.int .i64 0)∧w'.cell? ⟨rb,5,none⟩=some (.int .i64 c')∧w'.cell? ⟨rb,6,none⟩=some (.iface tt vv)∧w'.cell? ⟨rb,7,none⟩=some (.bool o.isSome)) (go_keep) (first | (go_at_call 56;refine (HTN.out _).mono ?_;rintro _ w3 ⟨rfl,hb3⟩;have v3:=hb3.cell (p:=⟨rb,3,none⟩) x3;have v4:=hb3.cell (p:=⟨rb,4,none⟩) x3;have v5:=hb3.cell (p:=⟨rb,5,none⟩) x3;have v6:=hb3.cell (p:=⟨rb,6,none⟩) x3;have v7:=hb3.cell (p:=⟨rb,7,none⟩) x3;have HB3:=z6 hb3;clear hb3))
   all_goals go_wp2_with fail
   all_goals go_ret3
   all_goals exact⟨rfl,by rw[HUO.out,HB3.out.block rb x3];exact HZ.out.1,by rw[HB3.out.block mb (zd HZ.out.2.1)];exact HZ.out.2.1,HZ.out.2.2.low ((Below.refl _ W5).drew.trans (HB3.out.mono HZ.out.2.2.size))⟩
end Go.Proofs.YtiganlkabilblaaGreatDoor
