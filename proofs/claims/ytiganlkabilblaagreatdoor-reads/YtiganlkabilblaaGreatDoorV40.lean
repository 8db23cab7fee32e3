import Derived.Test.YtiganlkabilblaaGreatDoorV36
import Derived.Test.YtiganlkabilblaaGreatDoorV39
set_option linter.all false
set_option maxHeartbeats 64000000
set_option maxRecDepth 100000
namespace Go.Proofs.YtiganlkabilblaaGreatDoor
open Go.RowKit Thk
theorem JK.impP {P Q:Nat→Prop} {sz:Nat} {w:World} {ao:Option Addr} {b n cap:Nat} {olds:List Value} (h:JK P sz w ao b n cap olds) (hp:∀ x,P x→Q x):JK Q sz w ao b n cap olds:=⟨h.came,fun hc=>hp _ (h.pb hc),h.max,h.fz⟩
def zL (m:Nat):List Value:=[.int .i64 (-7070),.int .i64 m,.int .i64 0,.int .i64 0]
abbrev zO (m:Nat):Obj:=.cells #[.int .i64 (-7070),.int .i64 m,.int .i64 0,.int .i64 0] 60 (0,0)
def q8 (m:Nat):Nat→Array Value
 | 1=>#[.int .i64 (-7070),.int .i64 m,.int .i64 0,.int .i64 0]
 | 2=>#[.int .i64 (-7070),.int .i64 m,.int .i64 0,.int .i64 0,.int .i64 (-7070),.int .i64 m,.int .i64 0,.int .i64 0]
 | _=>#[.int .i64 (-7070),.int .i64 m,.int .i64 0,.int .i64 0,.int .i64 (-7070),.int .i64 m,.int .i64 0,.int .i64 0,.int .i64 (-7070),.int .i64 m,.int .i64 0,.int .i64 0]
section
variable {w0 : World} {P : Nat → Prop} {zb m : Nat} {ao : Option Addr} {b n cap : Nat} {olds : List Value}
structure RSN (w0:World) (P:Nat→Prop) (zb m:Nat) (ao:Option Addr) (b n cap:Nat) (olds:List Value) (w:World):Prop where
 lst:JK P 4 w ao b n cap olds
 z:zb<w.heap.size
 fr:GrW w0 w (fun x=>x=b∧0<cap)
 zf:w.heap[zb]? = some (zO m)
 nzb:¬ (zb=b∧0<cap)
 pf:∀ x,w0.heap.size≤x→P x
abbrev RSS (w0:World) (P:Nat→Prop) (zb m:Nat) (ao:Option Addr) (b n cap:Nat) (olds:List Value) (w:World):Prop:=w.cell? ⟨zb,0,none⟩=some (.int .i64 (-7070))∧w.cell? ⟨zb,1,none⟩=some (.int .i64 m)∧w.cell? ⟨zb,2,none⟩=some (.int .i64 0)∧w.cell? ⟨zb,3,none⟩=some (.int .i64 0)∧RSN w0 P zb m ao b n cap olds w
theorem RSN.s {w:World} (h:RSN w0 P zb m ao b n cap olds w):RSS w0 P zb m ao b n cap olds w:=⟨z8 h.zf 0,z8 h.zf 1,z8 h.zf 2,z8 h.zf 3,h⟩
theorem RSN.alloc {w:World} (h:RSN w0 P zb m ao b n cap olds w) (o:Obj):RSN w0 P zb m ao b n cap olds (w.alloc o):=
 ⟨h.lst.ev (EvW.alloc _ _) (by simp) (fun j u hu=>by
  have h1:=h.lst.came.olds j u hu
  rw[Nat.zero_add] at h1
  rw[World.cell?_alloc_lt _ _ _ (World.block_lt_of_cell? w _ h1)];exact h1),by have:=h.z;simp;omega,⟨h.fr.os,h.fr.tape,h.fr.output,by have:=h.fr.size;simp;omega,fun k hk hr=>by rw[zm _ _ (by have:=h.fr.size;omega)];exact h.fr.block k hk hr⟩,by rw[zm _ _ h.z];exact h.zf,h.nzb,h.pf⟩
theorem zfA {w:World} (h:RSS w0 P zb m ao b n cap olds w) (o:Obj):RSS w0 P zb m ao b n cap olds (w.alloc o):=(h.2.2.2.2.alloc o).s
theorem GrW.look {w w':World} {b cap:Nat} {O:Option Obj} {k:Nat} (h:GrW w w' (fun x=>x=b∧0<cap)) (hk:k<w.heap.size) (hb:¬ (k=b∧0<cap)) (ho:w.heap[k]? = O):w'.heap[k]? = O:=(h.block k hk hb).trans ho
theorem ziX {w:World} {ops:Array Oper} {o:Oper} {a:Act} {K:Act→World→Prop} {Q:Exit→Act→World→Prop} {E:Prop} (hgd:o.guard=none) (s x:Operand)
  (ho:o.op = .call { callee:=.builtin .append,args:=#[s,x],argTypes:=#[53,53] }) (h:RSS w0 P zb m ao b n cap olds w) (hs:a.eval s = .slice ao n cap)
  (p k c:Nat) (hx:a.eval x = .slice (some ⟨p,0,none⟩) k c) (hk:k=1∨k=2∨k=3) (hp:w.heap[p]? = some (.cells (q8 m k) 60 (0,0))) (hb:n≤5000)
  (hK:∀ ao' cap' w',J4 P 4 w' (.slice ao' (n+k) cap') (n+k)→EvW w w'→RSS w0 P zb m ao b n cap olds w'→GrW w w' (fun x=>x=b∧0<cap)→K (a.put o.dst (.slice ao' (n+k) cap')) w') :
  if Region.wanted o (yielded ops a.tmps)=true then Oper.wp Tryz.prog o a w K Q else E:=by
 have hw:Region.wanted o (yielded ops a.tmps)=true:=by simp[Region.wanted,hgd]
 rw[if_pos hw]
 obtain⟨i0,hi0,hz0,hz1,hz2⟩:=info_parts Tryz.infoNode
 have hl:(q8 m k).toList.length=k * 4:=by rcases hk with rfl | rfl | rfl<;>rfl
 have h1:∀ u ∈ (q8 m k).toList,u.oneCell'=true:=by rcases hk with rfl | rfl | rfl<;>exact List.all_eq_true.1 rfl
 have hR:=h.2.2.2.2
 obtain⟨ao',cap',w',hrun,r1,r2,r3,r4⟩:=ziv Tryz.underlying53 hi0 hz0 hz1 (by omega) o.type hR.lst (.slice (some ⟨p,0,none⟩) k c) k (q8 m k).toList (Src.ofSlice w Tryz.underlying53 ⟨p,0,none⟩ k c _ hl (World.news_of_block hp) h1) (by omega) (by omega) (fun x hx=>hR.pf x (by have:=hR.fr.size;omega))
 unfold Oper.wp
 simp[execOp,ho,resolve,invoke,builtin,hs,hx,hrun,Result.andThen]
 refine hK ao' cap' w' r1 r2 (RSN.s ⟨r3,by have:=r4.size;have:=hR.z;omega,⟨r4.os.trans hR.fr.os,r4.tape.trans hR.fr.tape,r4.output.trans hR.fr.output,Nat.le_trans hR.fr.size r4.size,fun x hx hr=>?_⟩,?_,hR.nzb,hR.pf⟩) r4
 ·rw[r4.block x (by have:=hR.fr.size;omega) hr];exact hR.fr.block x hx hr
 ·rw[r4.block zb hR.z hR.nzb];exact hR.zf
end
section
variable {w0 : World} {P : Nat → Prop} {zb m nb n : Nat} {A : Nat → Option Addr} {C : Nat → Nat}
structure Jt (w0:World) (P:Nat→Prop) (zb m nb n:Nat) (A:Nat→Option Addr) (C:Nat→Nat) (k i:Nat) (w:World):Prop where
 fr:GrW w0 w P
 zf:w.heap[zb]? = some (zO m)
 nk:w.heap[nb]? = some (.cells #[.slice (A 0) (n+0) (C 0),.slice (A 1) (n+1) (C 1),.slice (A 2) (n+2) (C 2),.slice (A 3) (n+3) (C 3)] 53 (0,0))
 nge:w0.heap.size≤nb
 nz:¬ P zb
 rooms:∀ k,k<4→J4 (fun x=>P x∧x≠nb) 4 w (.slice (A k) (n+k) (C k)) (n+k)
 full:∀ k' i',k'<4→i'<n+k'→(k'<k∨k'=k∧i'<i)→∃ b,A k'=some ⟨b,0,none⟩∧∀ j,j<4→w.cell? ⟨b,i' * 4+j,none⟩=(zL m)[j]?
abbrev Yn (w:World) (b o m:Nat):World:=(((w.setCell ⟨b,o,none⟩ (.int .i64 (-7070))).setCell ⟨b,o+1,none⟩ (.int .i64 m)).setCell ⟨b,o+2,none⟩ (.int .i64 0)).setCell ⟨b,o+3,none⟩ (.int .i64 0)
theorem zaq (w:World) (b o m:Nat) {k:Nat} (h:k≠b):(Yn w b o m).heap[k]? = w.heap[k]? := by
 unfold Yn
 rw[Below.heap_setCell _ _ _ _ h,Below.heap_setCell _ _ _ _ h,Below.heap_setCell _ _ _ _ h,Below.heap_setCell _ _ _ _ h]
theorem ziF (w:World) (b o m:Nat):EvW w (Yn w b o m):=(((EvW.setCell w _ _).trans (EvW.setCell _ _ _)).trans (EvW.setCell _ _ _)).trans (EvW.setCell _ _ _)
theorem ziG (w:World) (b o m:Nat) {a:Addr} (h:∀ j,j<4→a≠⟨b,o+j,none⟩):(Yn w b o m).cell? a=w.cell? a:=by
 unfold Yn
 rw[World.cell?_setCell_other _ _ _ _ (fun e=>h 3 (by decide) e.symm),World.cell?_setCell_other _ _ _ _ (fun e=>h 2 (by decide) e.symm),World.cell?_setCell_other _ _ _ _ (fun e=>h 1 (by decide) e.symm),World.cell?_setCell_other _ ⟨b,o,none⟩ _ _ (fun e=>h 0 (by decide) e.symm)]
theorem zcC (w:World) (b o m:Nat) (h:∀ j,j<4→(w.cell? ⟨b,o+j,none⟩).isSome=true) (j:Nat) (hj:j<4):(Yn w b o m).cell? ⟨b,o+j,none⟩=(zL m)[j]? := by
 have e1:=EvW.setCell w ⟨b,o,none⟩ (.int .i64 (-7070))
 have e2:=e1.trans (EvW.setCell _ ⟨b,o+1,none⟩ (.int .i64 m))
 have e3:=e2.trans (EvW.setCell _ ⟨b,o+2,none⟩ (.int .i64 0))
 have hj4:j=0∨j=1∨j=2∨j=3:=by omega
 unfold Yn
 rcases hj4 with rfl | rfl | rfl | rfl
 ·rw[World.cell?_setCell_other _ _ _ _ (by simp),World.cell?_setCell_other _ _ _ _ (by simp),World.cell?_setCell_other _ _ _ _ (by simp)]
  exact World.cell?_setCell_same' _ _ _ (h 0 hj)
 ·rw[World.cell?_setCell_other _ _ _ _ (by simp),World.cell?_setCell_other _ _ _ _ (by simp)]
  exact World.cell?_setCell_same' _ _ _ (e1 _ (h 1 hj)).1
 ·rw[World.cell?_setCell_other _ _ _ _ (by simp)]
  exact World.cell?_setCell_same' _ _ _ (e2 _ (h 2 hj)).1
 ·exact World.cell?_setCell_same' _ _ _ (e3 _ (h 3 hj)).1
theorem GrW.drew {w w':World} {row:Nat→Prop} (h:GrW w w' row):GrW w w'.drew row:=⟨h.os,h.tape,h.output,h.size,h.block⟩
theorem Jt.drew {k i:Nat} {w:World} (h:Jt w0 P zb m nb n A C k i w):Jt w0 P zb m nb n A C k i w.drew:=
 ⟨h.fr.drew,h.zf,h.nk,h.nge,h.nz,fun k hk=>(h.rooms k hk).ev (fun a ha=>⟨ha,rfl⟩) (Nat.le_refl _),h.full⟩
theorem Jt.store {k i:Nat} {w:World} (h:Jt w0 P zb m nb n A C k i w) (hk:k<4) (hi:i<n+k) {b:Nat} (ha:A k=some ⟨b,0,none⟩):Jt w0 P zb m nb n A C k (i+1) (Yn w b (i * 4) m):=by
 obtain⟨ao,b',cap,e1,h2,h3,h4⟩:=h.rooms k hk
 cases e1
 obtain⟨a1,⟨a2,a5⟩,a3⟩:=h2 (by omega)
 obtain rfl:b=b':=by rw[ha] at a1;simpa using a1
 have hs:∀ j,j<4→(w.cell? ⟨b,i * 4+j,none⟩).isSome=true:=fun j hj=>(h4 (i * 4+j) (by omega)).1
 have hz:(Yn w b (i * 4) m).heap.size=w.heap.size:=by simp[Yn,World.setCell]
 have hnz:zb≠b:=fun e=>h.nz (e ▸ a2)
 refine⟨⟨h.fr.os,h.fr.tape,h.fr.output,by rw[hz];exact h.fr.size,fun x hx hr=>?_⟩,by rw[zaq _ _ _ _ hnz];exact h.zf,by rw[zaq _ _ _ _ (fun e=>a5 e.symm)];exact h.nk,h.nge,h.nz,fun k hk=>(h.rooms k hk).ev (ziF _ _ _ _) (by rw[hz];exact Nat.le_refl _),?_⟩
 ·rw[zaq _ _ _ _ (fun e:x=b=>hr (by rw[e];exact a2))];exact h.fr.block x hx hr
 ·intro k' i' hk' hi' hc
  by_cases hnew:k'=k∧i'=i
  ·obtain⟨rfl,rfl⟩:=hnew
   exact⟨b,ha,fun j hj=>zcC w b _ m hs j hj⟩
  ·obtain⟨b2,hA,hF⟩:=h.full k' i' hk' hi' (by omega)
   refine⟨b2,hA,fun j hj=>?_⟩
   by_cases hsame:b2=b∧i'=i
   ·obtain⟨rfl,rfl⟩:=hsame
    exact zcC w b2 _ m hs j hj
   ·rw[ziG _ _ _ _ (fun j' hj' e=>by
     simp only[Addr.mk.injEq] at e
     exact hsame ⟨e.1,by omega⟩)]
    exact hF j hj
theorem zeS {w:World} {ao:Option Addr} {b cap:Nat} {olds:List Value} (h:RSS w0 P zb m ao b n cap olds w) (hz:¬ P zb) (hpb : 0<cap→P b) {a1 a2 a3:Option Addr} {c1 c2 c3:Nat}
  (r1:J4 P 4 w (.slice a1 (n+1) c1) (n+1)) (r2:J4 P 4 w (.slice a2 (n+2) c2) (n+2)) (r3:J4 P 4 w (.slice a3 (n+3) c3) (n+3)) :
  ∃ (nb:Nat) (A:Nat→Option Addr) (C:Nat→Nat),Value.slice (some ⟨w.heap.size,0,none⟩) 4 4 = .slice (some ⟨nb,0,none⟩) 4 4∧Jt w0 P zb m nb n A C 0 0 (w.alloc (.cells #[.slice ao n cap,.slice a1 (n+1) c1,.slice a2 (n+2) c2,.slice a3 (n+3) c3] 53)):=by
 have hf:∀ {v:Value} {n:Nat} (O:Obj),J4 P 4 w v n→J4 (fun x=>P x∧x≠w.heap.size) 4 (w.alloc O) v n:=by
  intro v n O hr
  obtain⟨ao,b,cap,h1,h2,h3,h4⟩:=hr
  refine⟨ao,b,cap,h1,fun hn=>?_,h3,fun j hj=>?_⟩
  ·obtain⟨x1,x2,x3⟩:=h2 hn
   exact⟨x1,⟨x2,by omega⟩,by simp;omega⟩
  ·obtain⟨x1,x2⟩:=h4 j hj
   have:=EvW.alloc w O _ x1
   exact⟨this.1,this.2.trans x2⟩
 have hR:=h.2.2.2.2
 refine⟨w.heap.size,fun k=>if k=0 then ao else if k=1 then a1 else if k=2 then a2 else a3,fun k=>if k=0 then cap else if k=1 then c1 else if k=2 then c2 else c3,rfl,⟨(hR.alloc _).fr.os,(hR.alloc _).fr.tape,(hR.alloc _).fr.output,(hR.alloc _).fr.size,fun x hx hr=>(hR.alloc _).fr.block x hx (fun ⟨e,hc⟩=>hr (e ▸ hpb hc))⟩,(hR.alloc _).zf,zk _ _,hR.fr.size,hz,fun k hk=>?_,fun k' i' _ _ hc=>by omega⟩
 have hk4:k=0∨k=1∨k=2∨k=3:=by omega
 rcases hk4 with rfl | rfl | rfl | rfl
 ·exact hf _ hR.lst.room
 ·exact hf _ r1
 ·exact hf _ r2
 ·exact hf _ r3
end
structure Jf (F:Nat→Prop) (w:World) (nb m:Nat):Prop where
 fnb:F nb
 ex:∃ (n:Nat) (A:Nat→Option Addr) (C:Nat→Nat),n≤5000∧w.heap[nb]? = some (.cells #[.slice (A 0) (n+0) (C 0),.slice (A 1) (n+1) (C 1),.slice (A 2) (n+2) (C 2),.slice (A 3) (n+3) (C 3)] 53 (0,0))∧∀ k i,k<4→i<n+k→∃ b,F b∧b<w.heap.size∧A k=some ⟨b,0,none⟩∧∀ j,j<4→w.cell? ⟨b,i * 4+j,none⟩=(zL m)[j]?
theorem Jf.same {F:Nat→Prop} {w w':World} {nb m:Nat} (h:Jf F w nb m) (hs:w.heap.size≤w'.heap.size) (hb:∀ b,b<w.heap.size→F b→w'.heap[b]? = w.heap[b]?):Jf F w' nb m:=by
 obtain⟨n,A,C,hn,h1,h2⟩:=h.ex
 refine⟨h.fnb,n,A,C,hn,by rw[hb nb (zd h1) h.fnb];exact h1,fun k i hk hi=>?_⟩
 obtain⟨b,hF,hl,hA,hc⟩:=h2 k i hk hi
 exact⟨b,hF,by omega,hA,fun j hj=>by rw[World.cell?_of_block (a:=⟨b,i * 4+j,none⟩) (hb b hl hF)];exact hc j hj⟩
end Go.Proofs.YtiganlkabilblaaGreatDoor
