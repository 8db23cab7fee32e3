import Derived.Test.YtiganlkabilblaaGreatDoorV39
import Derived.Test.YtiganlkabilblaaGreatDoorV40
import Derived.BigQuiet
import Derived.Test.YtiganlkabilblaaGreatDoorV36
set_option linter.all false
set_option maxHeartbeats 64000000
set_option maxRecDepth 100000
namespace Go.Proofs.YtiganlkabilblaaGreatDoor
open Go.RowKit Thk
attribute [local go_sem ↓] Go.wp_at_zero Go.wp_at_succ
theorem ptree_any (t s:ByteArray) (w:World) (hs:t.size≤maxLen) (hs2:s.size≤maxLen) (hg:ErrLaid w) :
  Calls Tryz.prog 29 #[.string t,.string s] w fun e w'=>zdX t.data.toList s w e w':=by
 have htk:=ptake_any t s w hs hs2 hg
 go_enter Tryz.func29,Tryz.ntmps29
 go_wp2_with fail
 refine htk.mono ?_
 rintro e w1 ⟨hb,res,hP,hE⟩
 have hz:=hb.size
 have HB:=hideP hb
 have HP:=hideP hP
 clear htk hb hP hg
 cases res with
 | error x=>
  obtain⟨er,p⟩:=x
  obtain⟨h0,rfl⟩:=hE
  simp only[useV]
  go_wp2_with fail
  go_ret2
  exact⟨HB.out.alloc hz _,_,_,rfl,.error (er,p),HP.out,rfl,rfl⟩
 | ok y=>
  obtain⟨g,E⟩:=y
  obtain⟨hgl,hE⟩:=hE
  by_cases hlong : 200<s.size
  ·rw[if_pos hlong] at hE
   subst hE
   simp only[useV]
   go_wp2_with fail
   go_ret2
   refine⟨HB.out.alloc hz _,_,_,rfl,.ok (g,E),HP.out,?_⟩
   simp only[]
   rw[if_pos hlong]
   exact⟨rfl,rfl⟩
  ·rw[if_neg hlong] at hE
   obtain⟨o,ho,rfl⟩:=hE
   have hgp:=HP.out.ends.pos
   cases o with
   | none=>
    have HO:=hideP ho
    simp only[useV,Option.isSome_none]
    clear ho
    go_wp2_with fail
    go_ret2
    refine⟨HB.out.alloc hz _,_,_,rfl,.ok (g,E),HP.out,?_⟩
    simp only[]
    rw[if_neg hlong]
    exact⟨none,HO.out,rfl,rfl⟩
   | some x=>
    obtain⟨e1,m⟩:=x
    have hsm:=ze8 HP.out.ends hgl (show s.data.toList.length≤200 by show s.size≤200;omega) ho
    simp only[] at hsm
    have hwf:wfN m:=(ho hgp).wf trivial e1 m rfl
    have HC:Hid (∀ O,Calls Tryz.prog 57 #[.agg #[.int .i64 ((0:Nat):Int),.int .i64 ((0:Nat):Int),.int .i64 e1,ntV m]] (w1.alloc O) fun e' w2=>∃ a2 n2 c2,e' = .returned (.slice a2 n2 c2)∧Hid (zdX t.data.toList s w (.returned (.tuple #[.slice a2 n2 c2,.int .i64 0])) w2)):=hideP (fun O=>(nodes_any (w1.alloc O) 0 0 e1 m hwf (by omega)).mono (by
     rintro e' w2 ⟨a2,c2,rfl,h1,h2⟩
     refine⟨a2,_,c2,rfl,hideP ⟨(HB.out.alloc hz _).trans (h2.mono (by simp;omega)),_,_,rfl,.ok (g,E),HP.out,?_⟩⟩
     simp only[]
     rw[if_neg hlong]
     exact⟨some (e1,m),ho,by simp,a2,c2,rfl,zan h1 (by simp;omega)⟩))
    have hnf:=zb3 m
    simp only[useV,Option.isSome_some]
    clear ho hsm hwf
    generalize ntV m=nv at *
    simp only[Int.natCast_zero] at HC ⊢
    rcases hnf with rfl | ⟨tt,vv,rfl⟩
    all_goals
     go_wp2_with fail
     refine (HC.out _).mono ?_
     rintro _ w2 ⟨a2,n2,c2,rfl,HZ⟩
     clear HC
     go_wp2_with fail
     go_ret2
     exact HZ.out
def NodL (w:World) (B:Nat) (v:Value) (l:List Nod):Prop:=w.ownsRow B 60 4 v l.length (l.flatMap nodC)
theorem nodC_get (ps:List Nod) (i j:Nat) (hi:i<ps.length) (hj:j<4):(ps.flatMap nodC)[i * 4+j]? = (nodC ps[i])[j]? := by
 induction ps generalizing i with
 | nil=>simp at hi
 | cons p ps ih=>
  have hl:(nodC p).length=4:=rfl
  cases i with
  | zero=>
   simp only[List.flatMap_cons,Nat.zero_mul,Nat.zero_add,List.getElem_cons_zero]
   rw[List.getElem?_append_left (by omega)]
  | succ i=>
   simp only[List.flatMap_cons,List.getElem_cons_succ]
   rw[List.getElem?_append_right (by omega),hl,show (i+1) * 4+j - 4=i * 4+j from by omega]
   exact ih i (by simpa using hi)
theorem NodL.gen {w:World} {B:Nat} {v:Value} {l:List Nod} (h:NodL w B v l):∃ pa pc,v = .slice pa l.length pc∧l.length≤9223372036854775807∧∀ i (hi:i<l.length),∃ pg,pa=some ⟨pg,0,none⟩∧pg<w.heap.size∧w.cell? ⟨pg,i * 4,none⟩=some (.int .i64 l[i].1)∧w.cell? ⟨pg,i * 4+1,none⟩=some (.int .i64 l[i].2.1)∧w.cell? ⟨pg,i * 4+2,none⟩=some (.int .i64 l[i].2.2.1)∧w.cell? ⟨pg,i * 4+3,none⟩=some (.int .i64 l[i].2.2.2):=by
 have h':=h
 rcases h'.2 with ⟨rfl,h0⟩ | ⟨g,cap,cur,rfl,_,hg,h1,h2,_⟩
 ·exact⟨none,0,by rw[h0],by omega,fun j hj=>by omega⟩
 ·have hc:∀ i (hi:i<l.length) j,j<4→w.cell? ⟨g,i * 4+j,none⟩=(nodC l[i])[j]? := fun i hi j hj=>by
   have:=h.cellAt (g:=g) (i * 4+j) (by omega)
   rw[nodC_get _ _ _ hi hj] at this;exact this
  exact⟨_,cap,rfl,by unfold maxLen at h2;omega,fun i hi=>⟨g,rfl,za3 hg,hc i hi 0 (by decide),hc i hi 1 (by decide),hc i hi 2 (by decide),hc i hi 3 (by decide)⟩⟩
theorem sameNodes_any (w:World) (B B2:Nat) (v1 v2:Value) (l:List Nod) (h1:NodL w B v1 l) (h2:NodL w B2 v2 l) :
  Calls Tryz.prog 48 #[v1,v2] w fun e w'=>e = .returned (.bool true)∧Below w.heap.size w w':=by
 obtain⟨pa,pc,rfl,hm,hc⟩:=h1.gen
 obtain⟨pb,pd,rfl,_,hd⟩:=h2.gen
 clear h1 h2
 go_enter Tryz.func48,Tryz.ntmps48
 go_wp2_with fail
 go_loopg [5] l.length (fun m v wr=>∃ i q:Nat,m=l.length - i∧v = .int .i64 i∧i≤l.length∧wr=w.drewN q)
 case atStart=>exact⟨0,0,by omega,rfl,by omega,rfl⟩
 case round=>
  obtain⟨i,q,rfl,rfl,hi,rfl⟩:=hrel
  by_cases hlt:i<l.length
  ·have hlt':(i:Int)<l.length:=by omega
   obtain⟨pg,rfl,hpg,c0,c1,c2,c3⟩:=hc i hlt
   obtain⟨qg,rfl,hqg,d0,d1,d2,d3⟩:=hd i hlt
   generalize l[i].1=x0 at *
   generalize l[i].2.1=x1 at *
   generalize l[i].2.2.1=x2 at *
   generalize l[i].2.2.2=x3 at *
   clear hc hd
   go_wp2_with fail
   go_quiet (fail)
   go_wp2_with fail
   go_roundg (l.length - (i+1))
   case measure=>omega
   case rel=>exact⟨i+1,_,rfl,by go_num,by omega,rfl⟩
  ·have hlt':¬ (i:Int)<l.length:=by omega
   go_wp2_with fail
   go_ret
   exact⟨rfl,below_drewN (Below.refl _ _) _⟩
end Go.Proofs.YtiganlkabilblaaGreatDoor
namespace Go.Proofs.YtiganlkabilblaaGreatDoor
open Go.RowKit Thk
theorem LstG.impP {P Q:Nat→Prop} {sz:Nat} {w:World} {ao:Option Addr} {b n cap:Nat} {olds:List Value} (h:LstG P sz w ao b n cap olds) (hp:∀ x,P x→Q x):LstG Q sz w ao b n cap olds:=⟨h.came,fun hc=>hp _ (h.pb hc),h.max,h.fz⟩
def zL (m:Nat):List Value:=[.int .i64 (-7070),.int .i64 m,.int .i64 0,.int .i64 0]
abbrev zO (m:Nat):Obj:=.cells #[.int .i64 (-7070),.int .i64 m,.int .i64 0,.int .i64 0] 60 (0,0)
def srcN (m:Nat):Nat→Array Value
 | 1=>#[.int .i64 (-7070),.int .i64 m,.int .i64 0,.int .i64 0]
 | 2=>#[.int .i64 (-7070),.int .i64 m,.int .i64 0,.int .i64 0,.int .i64 (-7070),.int .i64 m,.int .i64 0,.int .i64 0]
 | _=>#[.int .i64 (-7070),.int .i64 m,.int .i64 0,.int .i64 0,.int .i64 (-7070),.int .i64 m,.int .i64 0,.int .i64 0,.int .i64 (-7070),.int .i64 m,.int .i64 0,.int .i64 0]
section
variable {w0 : World} {P : Nat → Prop} {zb m : Nat} {ao : Option Addr} {b n cap : Nat} {olds : List Value}
structure RSN (w0:World) (P:Nat→Prop) (zb m:Nat) (ao:Option Addr) (b n cap:Nat) (olds:List Value) (w:World):Prop where
 lst:LstG P 4 w ao b n cap olds
 z:zb<w.heap.size
 fr:GrW w0 w (fun x=>x=b∧0<cap)
 zf:w.heap[zb]? = some (zO m)
 nzb:¬ (zb=b∧0<cap)
 pf:∀ x,w0.heap.size≤x→P x
abbrev RSS (w0:World) (P:Nat→Prop) (zb m:Nat) (ao:Option Addr) (b n cap:Nat) (olds:List Value) (w:World):Prop:=w.cell? ⟨zb,0,none⟩=some (.int .i64 (-7070))∧w.cell? ⟨zb,1,none⟩=some (.int .i64 m)∧w.cell? ⟨zb,2,none⟩=some (.int .i64 0)∧w.cell? ⟨zb,3,none⟩=some (.int .i64 0)∧RSN w0 P zb m ao b n cap olds w
theorem RSN.s {w:World} (h:RSN w0 P zb m ao b n cap olds w):RSS w0 P zb m ao b n cap olds w:=⟨za0 h.zf 0,za0 h.zf 1,za0 h.zf 2,za0 h.zf 3,h⟩
theorem RSN.alloc {w:World} (h:RSN w0 P zb m ao b n cap olds w) (o:Obj):RSN w0 P zb m ao b n cap olds (w.alloc o):=
 ⟨h.lst.ev (EvW.alloc _ _) (by simp) (fun j u hu=>by
  have h1:=h.lst.came.olds j u hu
  rw[Nat.zero_add] at h1
  rw[World.cell?_alloc_lt _ _ _ (World.block_lt_of_cell? w _ h1)];exact h1),by have:=h.z;simp;omega,⟨h.fr.os,h.fr.tape,h.fr.output,by have:=h.fr.size;simp;omega,fun k hk hr=>by rw[za5 _ _ (by have:=h.fr.size;omega)];exact h.fr.block k hk hr⟩,by rw[za5 _ _ h.z];exact h.zf,h.nzb,h.pf⟩
theorem keepN {w:World} (h:RSS w0 P zb m ao b n cap olds w) (o:Obj):RSS w0 P zb m ao b n cap olds (w.alloc o):=(h.2.2.2.2.alloc o).s
theorem GrW.look {w w':World} {b cap:Nat} {O:Option Obj} {k:Nat} (h:GrW w w' (fun x=>x=b∧0<cap)) (hk:k<w.heap.size) (hb:¬ (k=b∧0<cap)) (ho:w.heap[k]? = O):w'.heap[k]? = O:=(h.block k hk hb).trans ho
theorem step_append_N {w:World} {ops:Array Oper} {o:Oper} {a:Act} {K:Act→World→Prop} {Q:Exit→Act→World→Prop} {E:Prop} (hgd:o.guard=none) (s x:Operand)
  (ho:o.op = .call { callee:=.builtin .append,args:=#[s,x],argTypes:=#[53,53] }) (h:RSS w0 P zb m ao b n cap olds w) (hs:a.eval s = .slice ao n cap)
  (p k c:Nat) (hx:a.eval x = .slice (some ⟨p,0,none⟩) k c) (hk:k=1∨k=2∨k=3) (hp:w.heap[p]? = some (.cells (srcN m k) 60 (0,0))) (hb:n≤5000)
  (hK:∀ ao' cap' w',RoomG P 4 w' (.slice ao' (n+k) cap') (n+k)→EvW w w'→RSS w0 P zb m ao b n cap olds w'→GrW w w' (fun x=>x=b∧0<cap)→K (a.put o.dst (.slice ao' (n+k) cap')) w') :
  if Region.wanted o (yielded ops a.tmps)=true then Oper.wp Tryz.prog o a w K Q else E:=by
 have hw:Region.wanted o (yielded ops a.tmps)=true:=by simp[Region.wanted,hgd]
 rw[if_pos hw]
 obtain⟨i0,hi0,hz0,hz1,hz2⟩:=info_parts Tryz.infoNode
 have hl:(srcN m k).toList.length=k * 4:=by rcases hk with rfl | rfl | rfl<;>rfl
 have h1:∀ u ∈ (srcN m k).toList,u.oneCell'=true:=by rcases hk with rfl | rfl | rfl<;>exact List.all_eq_true.1 rfl
 have hR:=h.2.2.2.2
 obtain⟨ao',cap',w',hrun,r1,r2,r3,r4⟩:=zf0 Tryz.underlying53 hi0 hz0 hz1 (by omega) o.type hR.lst (.slice (some ⟨p,0,none⟩) k c) k (srcN m k).toList (Src.ofSlice w Tryz.underlying53 ⟨p,0,none⟩ k c _ hl (World.news_of_block hp) h1) (by omega) (by omega) (fun x hx=>hR.pf x (by have:=hR.fr.size;omega))
 unfold Oper.wp
 simp[execOp,ho,resolve,invoke,builtin,hs,hx,hrun,Result.andThen]
 refine hK ao' cap' w' r1 r2 (RSN.s ⟨r3,by have:=r4.size;have:=hR.z;omega,⟨r4.os.trans hR.fr.os,r4.tape.trans hR.fr.tape,r4.output.trans hR.fr.output,Nat.le_trans hR.fr.size r4.size,fun x hx hr=>?_⟩,?_,hR.nzb,hR.pf⟩) r4
 ·rw[r4.block x (by have:=hR.fr.size;omega) hr];exact hR.fr.block x hx hr
 ·rw[r4.block zb hR.z hR.nzb];exact hR.zf
end
section
variable {w0 : World} {P : Nat → Prop} {zb m nb n : Nat} {A : Nat → Option Addr} {C : Nat → Nat}
structure FinN (w0:World) (P:Nat→Prop) (zb m nb n:Nat) (A:Nat→Option Addr) (C:Nat→Nat) (k i:Nat) (w:World):Prop where
 fr:GrW w0 w P
 zf:w.heap[zb]? = some (zO m)
 nk:w.heap[nb]? = some (.cells #[.slice (A 0) (n+0) (C 0),.slice (A 1) (n+1) (C 1),.slice (A 2) (n+2) (C 2),.slice (A 3) (n+3) (C 3)] 53 (0,0))
 nge:w0.heap.size≤nb
 nz:¬ P zb
 rooms:∀ k,k<4→RoomG (fun x=>P x∧x≠nb) 4 w (.slice (A k) (n+k) (C k)) (n+k)
 full:∀ k' i',k'<4→i'<n+k'→(k'<k∨k'=k∧i'<i)→∃ b,A k'=some ⟨b,0,none⟩∧∀ j,j<4→w.cell? ⟨b,i' * 4+j,none⟩=(zL m)[j]?
abbrev set4 (w:World) (b o m:Nat):World:=(((w.setCell ⟨b,o,none⟩ (.int .i64 (-7070))).setCell ⟨b,o+1,none⟩ (.int .i64 m)).setCell ⟨b,o+2,none⟩ (.int .i64 0)).setCell ⟨b,o+3,none⟩ (.int .i64 0)
theorem zem (w:World) (b o m:Nat) {k:Nat} (h:k≠b):(set4 w b o m).heap[k]? = w.heap[k]? := by
 unfold set4
 rw[Below.heap_setCell _ _ _ _ h,Below.heap_setCell _ _ _ _ h,Below.heap_setCell _ _ _ _ h,Below.heap_setCell _ _ _ _ h]
theorem set4_ev (w:World) (b o m:Nat):EvW w (set4 w b o m):=(((EvW.setCell w _ _).trans (EvW.setCell _ _ _)).trans (EvW.setCell _ _ _)).trans (EvW.setCell _ _ _)
theorem set4_out (w:World) (b o m:Nat) {a:Addr} (h:∀ j,j<4→a≠⟨b,o+j,none⟩):(set4 w b o m).cell? a=w.cell? a:=by
 unfold set4
 rw[World.cell?_setCell_other _ _ _ _ (fun e=>h 3 (by decide) e.symm),World.cell?_setCell_other _ _ _ _ (fun e=>h 2 (by decide) e.symm),World.cell?_setCell_other _ _ _ _ (fun e=>h 1 (by decide) e.symm),World.cell?_setCell_other _ ⟨b,o,none⟩ _ _ (fun e=>h 0 (by decide) e.symm)]
theorem set4_in (w:World) (b o m:Nat) (h:∀ j,j<4→(w.cell? ⟨b,o+j,none⟩).isSome=true) (j:Nat) (hj:j<4):(set4 w b o m).cell? ⟨b,o+j,none⟩=(zL m)[j]? := by
 have e1:=EvW.setCell w ⟨b,o,none⟩ (.int .i64 (-7070))
 have e2:=e1.trans (EvW.setCell _ ⟨b,o+1,none⟩ (.int .i64 m))
 have e3:=e2.trans (EvW.setCell _ ⟨b,o+2,none⟩ (.int .i64 0))
 have hj4:j=0∨j=1∨j=2∨j=3:=by omega
 unfold set4
 rcases hj4 with rfl | rfl | rfl | rfl
 ·rw[World.cell?_setCell_other _ _ _ _ (by simp),World.cell?_setCell_other _ _ _ _ (by simp),World.cell?_setCell_other _ _ _ _ (by simp)]
  exact World.cell?_setCell_same' _ _ _ (h 0 hj)
 ·rw[World.cell?_setCell_other _ _ _ _ (by simp),World.cell?_setCell_other _ _ _ _ (by simp)]
  exact World.cell?_setCell_same' _ _ _ (e1 _ (h 1 hj)).1
 ·rw[World.cell?_setCell_other _ _ _ _ (by simp)]
  exact World.cell?_setCell_same' _ _ _ (e2 _ (h 2 hj)).1
 ·exact World.cell?_setCell_same' _ _ _ (e3 _ (h 3 hj)).1
theorem GrW.drew {w w':World} {row:Nat→Prop} (h:GrW w w' row):GrW w w'.drew row:=⟨h.os,h.tape,h.output,h.size,h.block⟩
theorem FinN.drew {k i:Nat} {w:World} (h:FinN w0 P zb m nb n A C k i w):FinN w0 P zb m nb n A C k i w.drew:=
 ⟨h.fr.drew,h.zf,h.nk,h.nge,h.nz,fun k hk=>(h.rooms k hk).ev (fun a ha=>⟨ha,rfl⟩) (Nat.le_refl _),h.full⟩
theorem FinN.store {k i:Nat} {w:World} (h:FinN w0 P zb m nb n A C k i w) (hk:k<4) (hi:i<n+k) {b:Nat} (ha:A k=some ⟨b,0,none⟩):FinN w0 P zb m nb n A C k (i+1) (set4 w b (i * 4) m):=by
 obtain⟨ao,b',cap,e1,h2,h3,h4⟩:=h.rooms k hk
 cases e1
 obtain⟨a1,⟨a2,a5⟩,a3⟩:=h2 (by omega)
 obtain rfl:b=b':=by rw[ha] at a1;simpa using a1
 have hs:∀ j,j<4→(w.cell? ⟨b,i * 4+j,none⟩).isSome=true:=fun j hj=>(h4 (i * 4+j) (by omega)).1
 have hz:(set4 w b (i * 4) m).heap.size=w.heap.size:=by simp[set4,World.setCell]
 have hnz:zb≠b:=fun e=>h.nz (e ▸ a2)
 refine⟨⟨h.fr.os,h.fr.tape,h.fr.output,by rw[hz];exact h.fr.size,fun x hx hr=>?_⟩,by rw[zem _ _ _ _ hnz];exact h.zf,by rw[zem _ _ _ _ (fun e=>a5 e.symm)];exact h.nk,h.nge,h.nz,fun k hk=>(h.rooms k hk).ev (set4_ev _ _ _ _) (by rw[hz];exact Nat.le_refl _),?_⟩
 ·rw[zem _ _ _ _ (fun e:x=b=>hr (by rw[e];exact a2))];exact h.fr.block x hx hr
 ·intro k' i' hk' hi' hc
  by_cases hnew:k'=k∧i'=i
  ·obtain⟨rfl,rfl⟩:=hnew
   exact⟨b,ha,fun j hj=>set4_in w b _ m hs j hj⟩
  ·obtain⟨b2,hA,hF⟩:=h.full k' i' hk' hi' (by omega)
   refine⟨b2,hA,fun j hj=>?_⟩
   by_cases hsame:b2=b∧i'=i
   ·obtain⟨rfl,rfl⟩:=hsame
    exact set4_in w b2 _ m hs j hj
   ·rw[set4_out _ _ _ _ (fun j' hj' e=>by
     simp only[Addr.mk.injEq] at e
     exact hsame ⟨e.1,by omega⟩)]
    exact hF j hj
theorem finN_of {w:World} {ao:Option Addr} {b cap:Nat} {olds:List Value} (h:RSS w0 P zb m ao b n cap olds w) (hz:¬ P zb) (hpb : 0<cap→P b) {a1 a2 a3:Option Addr} {c1 c2 c3:Nat}
  (r1:RoomG P 4 w (.slice a1 (n+1) c1) (n+1)) (r2:RoomG P 4 w (.slice a2 (n+2) c2) (n+2)) (r3:RoomG P 4 w (.slice a3 (n+3) c3) (n+3)) :
  ∃ (nb:Nat) (A:Nat→Option Addr) (C:Nat→Nat),Value.slice (some ⟨w.heap.size,0,none⟩) 4 4 = .slice (some ⟨nb,0,none⟩) 4 4∧FinN w0 P zb m nb n A C 0 0 (w.alloc (.cells #[.slice ao n cap,.slice a1 (n+1) c1,.slice a2 (n+2) c2,.slice a3 (n+3) c3] 53)):=by
 have hf:∀ {v:Value} {n:Nat} (O:Obj),RoomG P 4 w v n→RoomG (fun x=>P x∧x≠w.heap.size) 4 (w.alloc O) v n:=by
  intro v n O hr
  obtain⟨ao,b,cap,h1,h2,h3,h4⟩:=hr
  refine⟨ao,b,cap,h1,fun hn=>?_,h3,fun j hj=>?_⟩
  ·obtain⟨x1,x2,x3⟩:=h2 hn
   exact⟨x1,⟨x2,by omega⟩,by simp;omega⟩
  ·obtain⟨x1,x2⟩:=h4 j hj
   have:=EvW.alloc w O _ x1
   exact⟨this.1,this.2.trans x2⟩
 have hR:=h.2.2.2.2
 refine⟨w.heap.size,fun k=>if k=0 then ao else if k=1 then a1 else if k=2 then a2 else a3,fun k=>if k=0 then cap else if k=1 then c1 else if k=2 then c2 else c3,rfl,⟨(hR.alloc _).fr.os,(hR.alloc _).fr.tape,(hR.alloc _).fr.output,(hR.alloc _).fr.size,fun x hx hr=>(hR.alloc _).fr.block x hx (fun ⟨e,hc⟩=>hr (e ▸ hpb hc))⟩,(hR.alloc _).zf,za4 _ _,hR.fr.size,hz,fun k hk=>?_,fun k' i' _ _ hc=>by omega⟩
 have hk4:k=0∨k=1∨k=2∨k=3:=by omega
 rcases hk4 with rfl | rfl | rfl | rfl
 ·exact hf _ hR.lst.room
 ·exact hf _ r1
 ·exact hf _ r2
 ·exact hf _ r3
end
structure EntN (F:Nat→Prop) (w:World) (nb m:Nat):Prop where
 fnb:F nb
 ex:∃ (n:Nat) (A:Nat→Option Addr) (C:Nat→Nat),n≤5000∧w.heap[nb]? = some (.cells #[.slice (A 0) (n+0) (C 0),.slice (A 1) (n+1) (C 1),.slice (A 2) (n+2) (C 2),.slice (A 3) (n+3) (C 3)] 53 (0,0))∧∀ k i,k<4→i<n+k→∃ b,F b∧b<w.heap.size∧A k=some ⟨b,0,none⟩∧∀ j,j<4→w.cell? ⟨b,i * 4+j,none⟩=(zL m)[j]?
theorem EntN.same {F:Nat→Prop} {w w':World} {nb m:Nat} (h:EntN F w nb m) (hs:w.heap.size≤w'.heap.size) (hb:∀ b,b<w.heap.size→F b→w'.heap[b]? = w.heap[b]?):EntN F w' nb m:=by
 obtain⟨n,A,C,hn,h1,h2⟩:=h.ex
 refine⟨h.fnb,n,A,C,hn,by rw[hb nb (za7 h1) h.fnb];exact h1,fun k i hk hi=>?_⟩
 obtain⟨b,hF,hl,hA,hc⟩:=h2 k i hk hi
 exact⟨b,hF,by omega,hA,fun j hj=>by rw[World.cell?_of_block (a:=⟨b,i * 4+j,none⟩) (hb b hl hF)];exact hc j hj⟩
end Go.Proofs.YtiganlkabilblaaGreatDoor
