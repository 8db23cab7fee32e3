import Derived.Test.YtiganlkabilblaaGreatDoorV26
import Derived.Deep.RegionHeldLaw
import Derived.Deep.AppendLies
set_option linter.all false
set_option maxHeartbeats 64000000
set_option maxRecDepth 100000
namespace Go.Proofs.YtiganlkabilblaaGreatDoor
open Go.RowKit Thk
attribute [local go_sem ↓] Go.wp_at_zero Go.wp_at_succ
theorem clo_at {kb mb nb:Nat} {N:List Nd} {bx:List (Nat × Nat × Nat)} {n:Nat} {x:Nat × Nat × Nat} {S:Nat→Prop} {d:Nd} {F:FuncId} {w:World} (hx:x=bx.getD n (0,0,0)) (h:Calls Tryz.prog F #[ptrV kb,clV bx n] w (Made1 kb mb nb N bx S d w)):Calls Tryz.prog F #[ptrV kb,cloV x] w (Made1 kb mb nb N bx S d w):=by
 rw[hx];exact h
theorem item_step (k:Nat) (hP:MakP k):MakI k:=by
 intro w kb mb nb N bx S names A a p b v h hnm ht hA hk hok hN hw
 obtain⟨vt,vx,rfl⟩:=RPiece.oneCell ht
 simp only[okT] at hok
 simp only[termV,Thk.Term.ahead,Thk.Term.behind]
 have HPC:=hideP (fun O=>hP (w.alloc O) kb mb nb N bx S names A p (.iface vt vx) (h.below (za1 w O)) (hnm.below (za1 w O)) (RPiece.kept (zau (za1 w O)) p _ ht) hA hk hok.2.2 (by omega) hw)
 have hkl:=za7 h.blk
 have hob:=hok.2.1
 have HN:=hideP hN
 have HKB:=hideP h.blk
 clear h hnm ht hok hP hk hN hA
 rcases hob with rfl | rfl | rfl | rfl
 ·go_enter Tryz.func190,Tryz.ntmps190
  go_wp2_with fail
  refine (HPC.out _).mono ?_
  rintro _ w1 ⟨N1,y,n,x,S1,rfl,hx,hn,h1,hg,hl,hd,hK,hS⟩
  have o2:w1.cell? ⟨w.heap.size,2,none⟩=some (.int .u8 0):=za0 (KpM.own (by simpa using hkl) hK) 2
  have HK:=hideP hK.alloc
  have HS:=hideP ((GrS.refl _ _).below hS (za1 w _))
  have HK1:=hideP h1.blk
  have HR:Hid (DnI N1 names n p 0):=hideP ⟨n,by simp,hd⟩
  have HX:=hideP hx
  clear hK hd HK1 hx
  go_wp2_with fail
  go_ret
  exact⟨N1,y,n,x,S1,rfl,HX.out,hn,h1,hg,by omega,HR.out,HK.out,(GrS.refl _ _).below hS (za1 _ _)⟩
 ·go_enter Tryz.func190,Tryz.ntmps190
  go_wp2_with fail
  refine (HPC.out _).mono ?_
  rintro _ w1 ⟨N1,y,n,x,S1,rfl,hx,hn,h1,hg,hl,hd,hK,hS⟩
  have o2:w1.cell? ⟨w.heap.size,2,none⟩=some (.int .u8 63):=za0 (KpM.own (by simpa using hkl) hK) 2
  have HK:=hideP hK.alloc
  have HS:=hideP ((GrS.refl _ _).below hS (za1 w _))
  have HK1:=hideP h1.blk
  have HM:=hideP (clo_at hx (maybe_any h1 (by have:=HN.out;omega) n hn))
  have HR:Hid (DnI (N1++[Nd.maybe n]) names N1.length p 63):=hideP ⟨n,by simp,DnP.goes (Goes.app _ _) p hd⟩
  have HL:=hideP h1.len
  clear hK hd h1 hx hS
  simp only[cloV] at HM ⊢
  go_wp2_with fail
  refine HM.out.mono ?_
  rintro _ w2 hm
  have hmk:=Mak.then1 (wt:=2 * wtP p+3) (P:=fun N' n=>DnI N' names n p 63) HKB.out HK1.out hg HL.out hl HK.out HS.out HR.out (by omega) hm
  obtain⟨x2,S2,rfl,h2,h3,h4⟩:=hm
  go_wp2_with fail
  go_ret
  exact hmk
 ·go_enter Tryz.func190,Tryz.ntmps190
  go_wp2_with fail
  refine (HPC.out _).mono ?_
  rintro _ w1 ⟨N1,y,n,x,S1,rfl,hx,hn,h1,hg,hl,hd,hK,hS⟩
  have o2:w1.cell? ⟨w.heap.size,2,none⟩=some (.int .u8 42):=za0 (KpM.own (by simpa using hkl) hK) 2
  have HK:=hideP hK.alloc
  have HS:=hideP ((GrS.refl _ _).below hS (za1 w _))
  have HK1:=hideP h1.blk
  have HM:=hideP (clo_at hx (zeZ h1 (by have:=HN.out;omega) n hn))
  have HR:Hid (DnI (N1++[Nd.plus n]++[Nd.maybe N1.length]) names (N1++[Nd.plus n]).length p 42):=hideP ⟨n,by
   rw[if_neg (by decide),if_neg (by decide),if_neg (by decide)]
   exact⟨N1.length,by simp,by simp⟩,DnP.goes ((Goes.app _ _).trans (Goes.app _ _)) p hd⟩
  have HL:=hideP h1.len
  clear hK hd h1 hx hS
  simp only[cloV] at HM ⊢
  go_wp2_with fail
  refine HM.out.mono ?_
  rintro _ w2 ⟨x2,S2,rfl,h2,h3,h4⟩
  have HK2:=hideP (HK.out.go h3)
  have HK12:=hideP h2.blk
  have HS2:=hideP (HS.out.trans h4 HKB.out ⟨_,HK1.out⟩ (Up.of_kpM HK.out))
  have hx2:x2=(bx++(y++[x2])).getD N1.length (0,0,0):=by
   rw[← List.append_assoc,List.getD_eq_getElem?_getD,List.getElem?_append_right (by rw[HL.out];exact Nat.le_refl _),HL.out,Nat.sub_self];rfl
  rw[List.append_assoc] at h2
  have HM2:=hideP (clo_at hx2 (maybe_any h2 (by have:=HN.out;simp;omega) N1.length (by simp)))
  have HL2:=hideP h2.len
  clear h2 h3 h4 hx2 HM
  simp only[cloV] at HM2 ⊢
  go_wp2_with fail
  refine HM2.out.mono ?_
  rintro _ w3 hm
  have hmk:=Mak.then1 (wt:=2 * wtP p+3) (wt1:=2 * wtP p+2) (P:=fun N' n=>DnI N' names n p 42) HKB.out HK12.out (hg.trans (Goes.app _ _)) HL2.out (by simp;omega) HK2.out HS2.out HR.out (by omega) hm
  obtain⟨x3,S3,rfl,_,_,_⟩:=hm
  go_wp2_with fail
  go_ret
  exact hmk
 ·go_enter Tryz.func190,Tryz.ntmps190
  go_wp2_with fail
  refine (HPC.out _).mono ?_
  rintro _ w1 ⟨N1,y,n,x,S1,rfl,hx,hn,h1,hg,hl,hd,hK,hS⟩
  have o2:w1.cell? ⟨w.heap.size,2,none⟩=some (.int .u8 43):=za0 (KpM.own (by simpa using hkl) hK) 2
  have HK:=hideP hK.alloc
  have HS:=hideP ((GrS.refl _ _).below hS (za1 w _))
  have HK1:=hideP h1.blk
  have HM:=hideP (clo_at hx (zeZ h1 (by have:=HN.out;omega) n hn))
  have HR:Hid (DnI (N1++[Nd.plus n]) names N1.length p 43):=hideP ⟨n,by rw[if_neg (by decide),if_neg (by decide),if_pos rfl];simp,DnP.goes (Goes.app _ _) p hd⟩
  have HL:=hideP h1.len
  clear hK hd h1 hx hS
  simp only[cloV] at HM ⊢
  go_wp2_with fail
  refine HM.out.mono ?_
  rintro _ w2 hm
  have hmk:=Mak.then1 (wt:=2 * wtP p+3) (P:=fun N' n=>DnI N' names n p 43) HKB.out HK1.out hg HL.out hl HK.out HS.out HR.out (by omega) hm
  obtain⟨x2,S2,rfl,h2,h3,h4⟩:=hm
  go_wp2_with fail
  go_ret
  exact hmk
theorem term_step (k:Nat) (hI:MakI k):MakT k:=by
 intro w kb mb nb N bx S names A t v h hnm ht hA hk hok hN hw
 obtain⟨a,p,b⟩:=t
 simp only[RTerm] at ht
 simp only[depT] at hk
 simp only[wtT] at hN hw ⊢
 obtain⟨vt,vx,rfl⟩:=RPiece.oneCell ht
 simp only[termV,Thk.Term.ahead,Thk.Term.behind]
 have HPC:=hideP (fun O=>hI (w.alloc O) kb mb nb N bx S names A a p b (.iface vt vx) (h.below (za1 w O)) (hnm.below (za1 w O)) (RPiece.kept (zau (za1 w O)) p _ ht) hA hk hok (by omega) (by omega))
 simp only[termV,Thk.Term.ahead,Thk.Term.behind] at HPC
 have hkl:=za7 h.blk
 simp only[okT] at hok
 have hoa:=hok.1
 have HN:=hideP hN
 have HKB:=hideP h.blk
 clear h hnm ht hok hI hk hN hA
 rcases hoa with rfl | rfl | rfl
 ·go_enter Tryz.func174,Tryz.ntmps174
  go_wp2_with fail
  refine (HPC.out _).mono ?_
  rintro _ w1 ⟨N1,y,n,x,S1,rfl,hx,hn,h1,hg,hl,hd,hK,hS⟩
  have o2:w1.cell? ⟨w.heap.size,0,none⟩=some (.int .u8 0):=za0 (KpM.own (by simpa using hkl) hK) 0
  have HK:=hideP hK.alloc
  have HS:=hideP ((GrS.refl _ _).below hS (za1 w _))
  have HK1:=hideP h1.blk
  have HR:Hid (DnT N1 names n (.mk 0 p b)):=hideP (by simp only[DnT];exact⟨n,by simp,hd⟩)
  have HX:=hideP hx
  clear hK hd HK1 hx
  go_wp2_with fail
  go_ret
  exact⟨N1,y,n,x,S1,rfl,HX.out,hn,h1,hg,by omega,HR.out,HK.out,(GrS.refl _ _).below hS (za1 _ _)⟩
 ·go_enter Tryz.func174,Tryz.ntmps174
  go_wp2_with fail
  refine (HPC.out _).mono ?_
  rintro _ w1 ⟨N1,y,n,x,S1,rfl,hx,hn,h1,hg,hl,hd,hK,hS⟩
  have o2:w1.cell? ⟨w.heap.size,0,none⟩=some (.int .u8 38):=za0 (KpM.own (by simpa using hkl) hK) 0
  have HK:=hideP hK.alloc
  have HS:=hideP ((GrS.refl _ _).below hS (za1 w _))
  have HK1:=hideP h1.blk
  have HM:Hid (Calls Tryz.prog 191 #[ptrV kb,cloV x,.bool true] w1 (Made1 kb mb nb N1 (bx++y) S1 (.ahead n true) w1)):=hideP (by have:=zex h1 (by have:=HN.out;omega) n hn true;rw[hx];exact this)
  have HR:Hid (DnT (N1++[Nd.ahead n true]) names N1.length (.mk 38 p b)):=hideP (by
   have hgo:=dnI_goes (Goes.app N1 [Nd.ahead n true]) hd
   simp only[DnT]
   exact⟨n,by rw[if_neg (by decide)];simp,hgo⟩)
  have HL:=hideP h1.len
  clear hK hd h1 hx hS
  simp only[cloV] at HM ⊢
  go_wp2_with fail
  refine HM.out.mono ?_
  rintro _ w2 hm
  have hmk:=Mak.then1 (wt:=2 * (2+wtP p)) (P:=fun N' n=>DnT N' names n (.mk 38 p b)) HKB.out HK1.out hg HL.out hl HK.out HS.out HR.out (by omega) hm
  obtain⟨x2,S2,rfl,h2,h3,h4⟩:=hm
  go_wp2_with fail
  go_ret
  exact hmk
 ·go_enter Tryz.func174,Tryz.ntmps174
  go_wp2_with fail
  refine (HPC.out _).mono ?_
  rintro _ w1 ⟨N1,y,n,x,S1,rfl,hx,hn,h1,hg,hl,hd,hK,hS⟩
  have o2:w1.cell? ⟨w.heap.size,0,none⟩=some (.int .u8 33):=za0 (KpM.own (by simpa using hkl) hK) 0
  have HK:=hideP hK.alloc
  have HS:=hideP ((GrS.refl _ _).below hS (za1 w _))
  have HK1:=hideP h1.blk
  have HM:Hid (Calls Tryz.prog 191 #[ptrV kb,cloV x,.bool false] w1 (Made1 kb mb nb N1 (bx++y) S1 (.ahead n false) w1)):=hideP (by have:=zex h1 (by have:=HN.out;omega) n hn false;rw[hx];exact this)
  have HR:Hid (DnT (N1++[Nd.ahead n false]) names N1.length (.mk 33 p b)):=hideP (by
   have hgo:=dnI_goes (Goes.app N1 [Nd.ahead n false]) hd
   simp only[DnT]
   exact⟨n,by rw[if_neg (by decide)];simp,hgo⟩)
  have HL:=hideP h1.len
  clear hK hd h1 hx hS
  simp only[cloV] at HM ⊢
  go_wp2_with fail
  refine HM.out.mono ?_
  rintro _ w2 hm
  have hmk:=Mak.then1 (wt:=2 * (2+wtP p)) (P:=fun N' n=>DnT N' names n (.mk 33 p b)) HKB.out HK1.out hg HL.out hl HK.out HS.out HR.out (by omega) hm
  obtain⟨x2,S2,rfl,h2,h3,h4⟩:=hm
  go_wp2_with fail
  go_ret
  exact hmk
end Go.Proofs.YtiganlkabilblaaGreatDoor
namespace Go.Proofs.YtiganlkabilblaaGreatDoor
open Go.RowKit Thk
theorem step_call {P:Program} {ops:Array Oper} {o:Oper} {a:Act} {w:World} {K:Act→World→Prop} {Q:Exit→Act→World→Prop} {E:Prop} (hgd:o.guard=none) (f:FuncId) (args:Array Value) (hx:(execOp a.eval o).run P w = .ok (.enter f args) w) {R:Value→World→Prop}
  (hc:Calls P f args w fun e w'=>∃ v,e = .returned v∧R v w') (h:∀ v w',R v w'→K (a.put o.dst v) w'):if Region.wanted o (yielded ops a.tmps)=true then Oper.wp P o a w K Q else E:=by
 have hw:Region.wanted o (yielded ops a.tmps)=true:=by simp[Region.wanted,hgd]
 rw[if_pos hw]
 unfold Oper.wp
 rw[hx]
 simp only[Oper.upon]
 refine hc.mono ?_
 rintro e w' ⟨v,rfl,hR⟩
 exact h v w' hR
structure LpM (w:World) (kb mb nb:Nat) (N:List Nd) (bx:List (Nat × Nat × Nat)) (S:Nat→Prop) (wt:Nat) (P:List Nd→List Nat→Prop) (i:Nat) (a:Option Addr) (c:Nat) (wr:World) (N':List Nd) (y:List (Nat × Nat × Nat)) (ks:List Nat) (S':Nat→Prop):Prop where
 mkr:Mk wr kb mb nb N' (bx++y) S'
 goes:Goes N N'
 cnt:N'.length≤N.length+wt
 ok:P N' ks
 lt:∀ k ∈ ks,k<N'.length
 len:ks.length=i
 box:wr.heap[w.heap.size]? = some (boxO (.slice a i c) 175)
 row:wr.ownsRow (w.heap.size+1) 226 1 (.slice a i c) i (ks.map (clV (bx++y)))
 nbx:¬ S' w.heap.size
 nr:∀ g,(Value.slice a i c).ownBlock=some g→¬ S' g
 kp:KpM [kb] w.heap.size w wr
 gr:GrS w S S'
theorem LpM.start {w:World} {kb mb nb:Nat} {N:List Nd} {bx:List (Nat × Nat × Nat)} {S:Nat→Prop} {P:List Nd→List Nat→Prop} (h:Mk w kb mb nb N bx S) (hP:P N []):LpM w kb mb nb N bx S 0 P 0 none 0 (w.alloc (boxO (.slice none 0 0) 175)) N [] [] S:=by
 refine⟨by rw[List.append_nil];exact h.below (za1 _ _),Goes.refl _,by omega,hP,by simp,rfl,za4 _ _,World.ownsRow_nil _ _ _ _,fun hs=>by have:=h.lt _ hs;omega,by simp[Value.ownBlock],KpM.of_below (za1 _ _),GrS.refl _ _⟩
theorem map_clV {bx y2:List (Nat × Nat × Nat)} {ks:List Nat} (h:∀ k ∈ ks,k<bx.length):ks.map (clV (bx++y2))=ks.map (clV bx):=List.map_congr_left (fun k hk=>zbv (h k hk) y2)
theorem LpM.call {w wr wA w1:World} {kb mb nb:Nat} {N N' N2:List Nd} {bx y y2:List (Nat × Nat × Nat)} {S S' S2:Nat→Prop} {wt wt2:Nat} {P:List Nd→List Nat→Prop} {i:Nat} {a:Option Addr} {c:Nat} {ks:List Nat} (h:LpM w kb mb nb N bx S wt P i a c wr N' y ks S') (hkl:kb<w.heap.size) (hkw:w.heap[kb]? = some (makO mb (.map (some nb)) N.length))
  (hA:Below wr.heap.size wr wA) (h1:Mk w1 kb mb nb N2 ((bx++y)++y2) S2) (hg:Goes N' N2) (hn:N2.length≤N'.length+wt2) (hK:KpM [kb] wA.heap.size wA w1) (hS:GrS wA S' S2) (hP:P N2 ks) (hlen:N'.length≤N2.length):LpM w kb mb nb N bx S (wt+wt2) P i a c w1 N2 (y++y2) ks S2:=by
 have hKr:KpM [kb] wr.heap.size wr w1:=(KpM.of_below hA).trans (hK.mono hA.size)
 have hbl:=za7 h.box
 have hSr:GrS wr S' S2:=(GrS.refl _ _).below hS hA
 have hcnt:=h.cnt
 refine⟨by rw[← List.append_assoc];exact h1,h.goes.trans hg,by omega,hP,fun k hk=>Nat.lt_of_lt_of_le (h.lt k hk) hlen,h.len,?_,?_,?_,?_,h.kp.go hKr,h.gr.trans hSr hkw ⟨_,h.mkr.blk⟩ (Up.of_kpM h.kp)⟩
 ·rw[hKr.block _ hbl (by simp;omega)];exact h.box
 ·rw[← List.append_assoc,map_clV (fun k hk=>by rw[h.mkr.len];exact h.lt k hk)]
  exact zah h.row (fun g hgb=>hKr.block g (h.row.lt g hgb).2 (by have:=(h.row.lt g hgb).1;simp;omega))
 ·intro hs
  rcases hSr _ hs with h' | h' | ⟨cur,h'⟩
  ·exact h.nbx h'
  ·omega
  ·rw[h.box] at h';simp at h'
 ·intro g hgb hs
  rcases hSr _ hs with h' | h' | ⟨cur,h'⟩
  ·exact h.nr g hgb h'
  ·have:=(h.row.lt g hgb).2;omega
  ·obtain⟨cur2,hc⟩:=zam h.row hgb
   rw[hc] at h';simp at h'
theorem LpM.put {w w1 w5:World} {kb mb nb:Nat} {N N':List Nd} {bx y:List (Nat × Nat × Nat)} {S S':Nat→Prop} {wt:Nat} {P P':List Nd→List Nat→Prop} {i:Nat} {a va:Option Addr} {c vc:Nat} {ks:List Nat} {O:Obj} {n:Nat} {x:Nat × Nat × Nat} (h:LpM w kb mb nb N bx S wt P i a c w1 N' y ks S') (hkl:kb<w.heap.size)
  (hx:x=(bx++y).getD n (0,0,0)) (hn:n<N'.length) (hP:P' N' (ks++[n])) (hown:w5.ownsRow (w.heap.size+1) 226 1 (.slice va (i+1) vc) (i+1) (ks.map (clV (bx++y))++[cloV x])) (hgrow:(w1.alloc O).grownBy w5 (Value.slice a i c).ownBlock) (hat:(Value.slice va (i+1) vc).ownBlock=(Value.slice a i c).ownBlock∨(Value.slice va (i+1) vc).ownBlock=some (w1.alloc O).heap.size) :
  LpM w kb mb nb N bx S wt P' (i+1) va vc (w5.setCell ⟨w.heap.size,0,none⟩ (.slice va (i+1) vc)) N' y (ks++[n]) S':=by
 have hs2:=hgrow.size
 simp at hs2
 have hbl:=za7 h.box
 have hks:=h.kp.size
 have hb5:∀ g,g<w1.heap.size→some g≠(Value.slice a i c).ownBlock→w5.heap[g]? = w1.heap[g]? := fun g hg hne=>by
  rw[hgrow.block g (by simp;omega) hne,za5 _ _ hg]
 have hbox5:w5.heap[w.heap.size]? = some (boxO (.slice a i c) 175):=by
  rw[hb5 _ hbl (fun e=>by have:=(h.row.lt _ e.symm).1;omega)];exact h.box
 have hsz6:(w5.setCell ⟨w.heap.size,0,none⟩ (.slice va (i+1) vc)).heap.size=w5.heap.size:=by simp[World.setCell]
 refine⟨h.mkr.same (by rw[hsz6];omega) (fun g hg=>?_) ?_,h.goes,h.cnt,hP,?_,by simp[h.len],?_,?_,h.nbx,?_,?_,h.gr⟩
 ·rw[Below.heap_setCell _ _ _ _ (fun e=>by subst e;exact h.nbx hg)]
  exact hb5 g (h.mkr.lt g hg) (fun e=>h.nr g e.symm hg)
 ·rw[Below.heap_setCell _ _ _ _ (by simp;omega)]
  exact hb5 kb (by omega) (fun e=>by have:=(h.row.lt _ e.symm).1;omega)
 ·intro k hk
  rcases List.mem_append.1 hk with hk | hk
  ·exact h.lt k hk
  ·simp at hk;subst hk;exact hn
 ·rw[za6 hbox5];rfl
 ·rw[List.map_append]
  have he:[n].map (clV (bx++y))=[cloV x]:=by simp[clV,hx]
  rw[he]
  exact zah hown (fun g hg=>Below.heap_setCell _ _ _ _ (by have:=(hown.lt g hg).1;simp;omega))
 ·intro g hg hs
  rcases hat with e | e
  ·exact h.nr g (by rw[← e];exact hg) hs
  ·have h1:=h.mkr.lt g hs
   rw[e] at hg
   simp at hg
   omega
 ·refine⟨hgrow.os.trans h.kp.os,hgrow.tape.trans h.kp.tape,hgrow.output.trans h.kp.output,by rw[hsz6];omega,fun k hk hn=>?_⟩
  rw[Below.heap_setCell _ _ _ _ (by simp;omega),hb5 k (by omega) (fun e=>by have:=(h.row.lt _ e.symm).1;omega)]
  exact h.kp.block k hk hn
theorem LpM.rowC {w wr w':World} {kb mb nb:Nat} {N N':List Nd} {bx y:List (Nat × Nat × Nat)} {S S':Nat→Prop} {wt:Nat} {P:List Nd→List Nat→Prop} {i:Nat} {a:Option Addr} {c:Nat} {ks:List Nat} (h:LpM w kb mb nb N bx S wt P i a c wr N' y ks S') (hml:mb<w.heap.size) (hs:wr.heap.size≤w'.heap.size) (hg:∀ g,(Value.slice a i c).ownBlock=some g→w'.heap[g]? = wr.heap[g]?) (x:Nat × Nat × Nat):RowC w' mb (bx++y++[x]) ks a:=by
 intro j hj
 have hlen:=h.len
 obtain⟨g,ha,hcs,hgl⟩:=zbr h.row (by omega)
 have hob:(Value.slice a i c).ownBlock=some g:=by rw[ha];rfl
 refine⟨g,ha,by omega,by have:=(h.row.lt g hob).1;omega,?_⟩
 rw[zbv (by rw[h.mkr.len];exact h.lt _ (List.getElem_mem hj))]
 have:=hcs j (by omega)
 simp only[World.cell?] at this ⊢
 rw[hg g hob,this,List.getElem?_map,List.getElem?_eq_getElem hj]
 rfl
theorem LpM.seq {w wr:World} {kb mb nb:Nat} {N N':List Nd} {bx y:List (Nat × Nat × Nat)} {S S':Nat→Prop} {wt:Nat} {P:List Nd→List Nat→Prop} {i:Nat} {a:Option Addr} {c:Nat} {ks:List Nat} (h:LpM w kb mb nb N bx S wt P i a c wr N' y ks S') (hml:mb<w.heap.size) (hkl:kb<w.heap.size) (hN:N'.length≤100000000) (hi:i≤1000000) :
  Calls Tryz.prog 150 #[ptrV kb,.func (.func 175) #[] #[ptrV wr.heap.size,ptrV w.heap.size]] (wr.alloc (boxO (ptrV mb) 113)) fun e w'=>∃ x S2,e = .returned (cloV x)∧Mk w' kb mb nb (N'++[.seq ks]) (bx++(y++[x])) S2∧KpM [kb] w.heap.size w w'∧GrS w S S2:=by
 have hbl:=za7 h.box
 have hlen:=h.len
 refine (made0 (h.mkr.below (za1 wr (boxO (ptrV mb) 113))) hN 175 #[ptrV wr.heap.size,ptrV w.heap.size] (d:=.seq ks) h.lt (fun b=>b=w.heap.size∨b=wr.heap.size∨(Value.slice a i c).ownBlock=some b) ?_ ?_).mono ?_
 ·rintro b (rfl | rfl | hb)
  ·exact⟨by simp;omega,by omega⟩
  ·exact⟨by simp,by omega⟩
  ·have:=h.row.lt b hb
   exact⟨by simp;omega,by omega⟩
 ·intro x w' hs hE
  simp at hs
  refine⟨wr.heap.size,w.heap.size,a,c,rfl,?_,?_,h.rowC hml (by omega) (fun g hg=>?_) x,by omega⟩
  ·rw[hE _ (.inr (.inl rfl))];exact za4 _ _
  ·rw[hE _ (.inl rfl),za5 _ _ hbl,hlen];exact h.box
  ·rw[hE _ (.inr (.inr hg)),za5 _ _ (h.row.lt g hg).2]
 ·rintro e w' ⟨x,S2,h1,h2,h3,h4⟩
  refine⟨x,S2,h1,by rw[← List.append_assoc];exact h2,h.kp.go (KpM.alloc h3),fun b hb=>?_⟩
  rcases h4 b hb with h' | (h' | h' | h') | h'
  ·exact h.gr b h'
  ·exact .inr (.inl (by omega))
  ·exact .inr (.inl (by omega))
  ·exact .inr (.inl (by have:=(h.row.lt b h').1;omega))
  ·simp at h'
   exact .inr (.inl (by omega))
theorem LpM.choice {w wr:World} {kb mb nb:Nat} {N N':List Nd} {bx y:List (Nat × Nat × Nat)} {S S':Nat→Prop} {wt:Nat} {P:List Nd→List Nat→Prop} {i:Nat} {a:Option Addr} {c:Nat} {ks:List Nat} (h:LpM w kb mb nb N bx S wt P i a c wr N' y ks S') (hml:mb<w.heap.size) (hkl:kb<w.heap.size) (hN:N'.length≤100000000) (hi:i≤1000000) :
  Calls Tryz.prog 150 #[ptrV kb,.func (.func 151) #[] #[ptrV w.heap.size]] wr fun e w'=>∃ x S2,e = .returned (cloV x)∧Mk w' kb mb nb (N'++[.choice ks]) (bx++(y++[x])) S2∧KpM [kb] w.heap.size w w'∧GrS w S S2:=by
 have hbl:=za7 h.box
 have hlen:=h.len
 refine (made0 h.mkr hN 151 #[ptrV w.heap.size] (d:=.choice ks) h.lt (fun b=>b=w.heap.size∨(Value.slice a i c).ownBlock=some b) ?_ ?_).mono ?_
 ·rintro b (rfl | hb)
  ·exact⟨hbl,by omega⟩
  ·have:=h.row.lt b hb
   exact⟨by omega,by omega⟩
 ·intro x w' hs hE
  refine⟨w.heap.size,a,c,rfl,?_,h.rowC hml hs (fun g hg=>hE _ (.inr hg)) x,by omega⟩
  rw[hE _ (.inl rfl),hlen];exact h.box
 ·rintro e w' ⟨x,S2,h1,h2,h3,h4⟩
  refine⟨x,S2,h1,by rw[← List.append_assoc];exact h2,h.kp.go h3,fun b hb=>?_⟩
  rcases h4 b hb with h' | (h' | h') | h'
  ·exact h.gr b h'
  ·exact .inr (.inl (by omega))
  ·exact .inr (.inl (by have:=(h.row.lt b h').1;omega))
  ·exact .inr (.inl (by omega))
end Go.Proofs.YtiganlkabilblaaGreatDoor
namespace Go.Proofs.YtiganlkabilblaaGreatDoor
open Go.RowKit Thk
attribute [local go_sem ↓] Go.wp_at_zero Go.wp_at_succ
theorem Tryz.infoExprF:(Tryz.prog.info? 226).map (fun i=>(i.zero,i.size,i.bytes))=some (some .nilFunc,1,8):=by kernel_rfl
theorem grownC {w5 w6:World} {O:Obj} {row:Option Nat} {a:Addr} {u:Value} (hg:(w5.alloc O).grownBy w6 row) (h:w5.cell? a=some u) (hn:some a.block≠row):w6.cell? a=some u:=
 hg.cell (by rw[World.cell?_alloc_lt _ _ _ (World.block_lt_of_cell? _ _ h)];exact h) hn
theorem LpM.wt {w:World} {kb mb nb:Nat} {N:List Nd} {bx:List (Nat × Nat × Nat)} {S:Nat→Prop} {wt wt':Nat} {P:List Nd→List Nat→Prop} {i:Nat} {a:Option Addr} {c:Nat} {wr:World} {N':List Nd} {y:List (Nat × Nat × Nat)} {ks:List Nat} {S':Nat→Prop} (h:LpM w kb mb nb N bx S wt P i a c wr N' y ks S') (hw:wt≤wt'):LpM w kb mb nb N bx S wt' P i a c wr N' y ks S':=
 { h with cnt:=Nat.le_trans h.cnt (by omega) }
theorem LpM.upTo {w:World} {kb mb nb:Nat} {N:List Nd} {bx:List (Nat × Nat × Nat)} {S:Nat→Prop} {wt:Nat} {P:List Nd→List Nat→Prop} {i:Nat} {a:Option Addr} {c:Nat} {wr X:World} {N':List Nd} {y:List (Nat × Nat × Nat)} {ks:List Nat} {S':Nat→Prop} (h:LpM w kb mb nb N bx S wt P i a c wr N' y ks S') (hX:Below wr.heap.size wr X):Up kb w X:=
 Up.of_kpM (h.kp.go (KpM.of_below hX))
theorem LpM.lenLe {w w1:World} {kb mb nb:Nat} {N N' N2:List Nd} {bx y y2:List (Nat × Nat × Nat)} {S S' S2:Nat→Prop} {wt:Nat} {P:List Nd→List Nat→Prop} {i:Nat} {a:Option Addr} {c:Nat} {wr:World} {ks:List Nat} (h:LpM w kb mb nb N bx S wt P i a c wr N' y ks S') (h1:Mk w1 kb mb nb N2 ((bx++y)++y2) S2):N'.length≤N2.length:=by
 have e1:=h.mkr.len
 have e2:=h1.len
 rw[List.length_append] at e2
 omega
theorem row_ne {w:World} {kb mb nb n g sz m:Nat} {e:TypeId} {v:Value} {xs:List Value} (hk:w.heap[kb]? = some (makO mb (.map (some nb)) n)) (he:e≠224) (hs:w.ownsRow 0 e sz v m xs) (hg:v.ownBlock=some g):g≠kb:=by
 rintro rfl
 obtain⟨cur,hc⟩:=zam hs hg
 rw[hk] at hc
 simp only[Option.some.injEq,Obj.cells.injEq] at hc
 exact he hc.2.1.symm
theorem sequence_step (k:Nat) (hT:MakT k):MakS k:=by
  intro w kb mb nb N bx S names A s u h hnm hs hA hk hok hN hw
  obtain⟨vs,⟨hrow,hAr⟩,hts⟩:=hs
  obtain⟨ua,uc,rfl⟩:=za9 hrow
  have hmf:∀ (fn:Fn) (first cap:Array Value) (w:World),(Instr.makeFunc fn first cap).run Tryz.prog w = .ok (.func fn first cap) w:=fun _ _ _ _=>rfl
  have HVL:Hid (s.length=vs.length):=RTerms.length hts
  obtain⟨i0,hi0,hz0,hz1,hz2⟩:=info_parts Tryz.infoExprF
  have hsl:=swtS_len s
  have hse:=sumT_eq s
  have hn1:s.length≤500000:=by omega
  have hkl:=za7 h.blk
  have hml:=h.mlt
  have HKB:=hideP h.blk
  have HNM:=hideP hnm
  have HTS:=hideP hts
  have HROW:=hideP hrow
  have HK:=hideP hk
  have HOK:=hideP hok
  have HW:=hideP hw
  have HNN:=hideP hN
  have HSE:=hideP hse
  have H0:=hideP (LpM.start (P:=fun N' ks=>DnS N' names ks (s.take 0)) h (by simp[DnS]))
  clear h hnm hts hrow hAr hk hok hw hN hsl hse
  go_enter Tryz.func149,Tryz.ntmps149
  go_wp2_with fail
  go_loopg [11] s.length (fun m vi wr=>∃ (i:Nat) (a:Option Addr) (c:Nat) (N':List Nd) (y:List (Nat × Nat × Nat)) (ks:List Nat) (S':Nat→Prop),m=s.length - i∧vi = .int .i64 i∧i≤s.length∧Hid (LpM w kb mb nb N bx S (2 * sumT (s.take i)) (fun N' ks=>DnS N' names ks (s.take i)) i a c wr N' y ks S'))
  case atStart=>exact⟨0,none,0,N,[],[],S,by omega,rfl,by omega,H0⟩
  case round=>
    obtain⟨i,a,c,N',y,ks,S',rfl,rfl,hi,HI⟩:=hrel
    have hsr:=HI.out.kp.size
    have hbl:=za7 HI.out.box
    have b0:wr.cell? ⟨w.heap.size,0,none⟩=some (.slice a i c):=za0 HI.out.box 0
    by_cases hlt:i<s.length
    · have hlt':(i:Int)<s.length:=by omega
      have hjv:i<vs.length:=by have:=HVL.out;omega
      obtain⟨g,hua,hcs,hgl⟩:=zbr HROW.out (by omega)
      subst hua
      have hgk:g≠kb:=row_ne HKB.out (by decide) HROW.out rfl
      have hbg:wr.heap[g]? = w.heap[g]? := HI.out.kp.block g hgl (by simpa using hgk)
      obtain⟨t0,t1,t2⟩:=zc7 s vs HVL.out i hlt
      have c0:wr.cell? ⟨g,i * 3,none⟩=some (.int .u8 s[i].ahead.toNat):=by rw[World.cell?_of_block (a:=⟨g,_,none⟩) hbg,hcs _ (by omega)];exact t0
      have c1 : wr.cell? ⟨g, i * 3 + 1, none⟩ = some (vs[i]'hjv) := by rw [World.cell?_of_block (a := ⟨g, _, none⟩) hbg, hcs _ (by omega)]; exact t1
      have c2:wr.cell? ⟨g,i * 3+2,none⟩=some (.int .u8 s[i].behind.toNat):=by rw[World.cell?_of_block (a:=⟨g,_,none⟩) hbg,hcs _ (by omega)];exact t2
      have htr:=RTerms.get HTS.out i hlt hjv
      have hst:=sumT_take s i hlt
      have hsle:=sumT_le s (i+1)
      have HPC : Hid (∀ X, Below wr.heap.size wr X → Calls Tryz.prog 174 #[ptrV kb, termV s[i] (vs[i]'hjv)] X (Mak kb mb nb N' (bx ++ y) S' (2 * wtT s[i]) (fun N2 n => DnT N2 names n s[i]) X)) := hideP (fun X hX => by
        have hu:=HI.out.upTo hX
        have hcn:=HI.out.cnt
        have hse:=HSE.out
        have hnn:=HNN.out
        have hww:=HW.out
        exact hT X kb mb nb N' (bx ++ y) S' names A s[i] (vs[i]'hjv) (HI.out.mkr.below hX) (HNM.out.up HKB.out hu) (RTerm.kept (sm_up HKB.out hu hA) _ _ htr) hA (Nat.le_trans (zcy s i hlt) HK.out) (okS_get HOK.out i hlt) (by omega) (by omega))
      have HGO : Hid (∀ X w1 N2 y2 n x S2 w5 va vc O, Below wr.heap.size wr X → x = ((bx ++ y) ++ y2).getD n (0, 0, 0) → n < N2.length → Mk w1 kb mb nb N2 ((bx ++ y) ++ y2) S2 → Goes N' N2 → N2.length ≤ N'.length + 2 * wtT s[i] → DnT N2 names n s[i] → KpM [kb] X.heap.size X w1 → GrS X S' S2 →
          w5.ownsRow (w.heap.size+1) 226 1 (.slice (some ⟨va,0,none⟩) (i+1) vc) (i+1) (ks.map (clV ((bx++y)++y2))++[cloV x])→(w1.alloc O).grownBy w5 (Value.slice a i c).ownBlock→((Value.slice a i c).ownBlock=some va∨va=w1.heap.size+1) →
          Hid (LpM w kb mb nb N bx S (2 * sumT (s.take (i+1))) (fun N' ks=>DnS N' names ks (s.take (i+1))) (i+1) (some ⟨va,0,none⟩) vc (w5.setCell ⟨w.heap.size,0,none⟩ (.slice (some ⟨va,0,none⟩) (i+1) vc)) N2 (y++y2) (ks++[n]) S2)):=hideP (fun X w1 N2 y2 n x S2 w5 va vc O hX hx hn h1 hg hl hd hK hS hown hgrow hat=>by
        have hC:=HI.out.call hkl HKB.out hX h1 hg hl hK hS (DnS.goes hg _ HI.out.ok) (HI.out.lenLe h1)
        rw[List.append_assoc] at hx hown
        have hP:=LpM.put (P':=fun N' ks=>DnS N' names ks (s.take (i+1))) hC hkl hx hn (by rw[List.take_succ_eq_append_getElem hlt];exact hC.ok.snoc hd) hown hgrow (by
          rcases hat with e | e
          · exact .inl e.symm
          · exact .inr (by rw[e];simp[Value.ownBlock]))
        exact hideP (hP.wt (by omega)))
      have HC1:Hid (∀ X w1 N2 y2 S2,Below wr.heap.size wr X→Mk w1 kb mb nb N2 ((bx++y)++y2) S2→Goes N' N2→N2.length≤N'.length+2 * wtT s[i]→KpM [kb] X.heap.size X w1→GrS X S' S2→w1.heap[w.heap.size]? = some (boxO (.slice a i c) 175)∧w1.ownsRow (w.heap.size+1) 226 1 (.slice a i c) i (ks.map (clV ((bx++y)++y2)))):=hideP (fun X w1 N2 y2 S2 hX h1 hg hl hK hS=>by
        have hC:=HI.out.call hkl HKB.out hX h1 hg hl hK hS (DnS.goes hg _ HI.out.ok) (HI.out.lenLe h1)
        have hr:=hC.row
        rw[← List.append_assoc] at hr
        exact⟨hC.box,hr⟩)
      obtain ⟨tt, xx, hvx⟩ : ∃ t x, vs[i]'hjv = .iface t x := by
        cases htt:s[i] with
        | mk a p b=>rw[htt] at htr;simp only[RTerm] at htr;exact RPiece.oneCell htr
      rw[hvx] at c1
      simp only[hvx,termV] at HPC
      generalize hT2:s[i]=T at *
      have HBN:Hid (some w.heap.size≠(Value.slice a i c).ownBlock):=hideP (fun e=>by have:=(HI.out.row.lt _ e.symm).1;omega)
      have HTN:Hid (some wr.heap.size≠(Value.slice a i c).ownBlock):=hideP (fun e=>Nat.lt_irrefl _ (HI.out.row.lt _ e.symm).2)
      have HML:Hid (i+1≤maxLen):=by show _≤_;unfold maxLen;omega
      have hkr:kb≠wr.heap.size:=by omega
      generalize T.ahead=ah at *
      generalize T.behind=be at *
      clear htr t0 t1 t2 hvx hst hsle hcs hbg hgk
      go_wp2_with fail
      have z0:Hid (∀ w1:World,KpM [kb] ((wr.alloc (.cells #[.int .u8 ah.toNat,.iface tt xx,.int .u8 be.toNat] 249)).drew).heap.size ((wr.alloc (.cells #[.int .u8 ah.toNat,.iface tt xx,.int .u8 be.toNat] 249)).drew) w1→w1.heap[wr.heap.size]? = some (.cells #[.int .u8 ah.toNat,.iface tt xx,.int .u8 be.toNat] 249)):=hideP (fun w1 hK=>by
        rw[hK.block wr.heap.size (by show _<(wr.alloc _).heap.size;simp) (by simp;omega)]
        exact za4 _ _)
      have HN:Hid (∀ (w1 w5:World) (O:Obj),(w1.alloc O).grownBy w5 (Value.slice a i c).ownBlock→w1.heap[w.heap.size]? = some (boxO (.slice a i c) 175)→w5.heap[w.heap.size]? = some (boxO (.slice a i c) 175)):=hideP (fun w1 w5 O hg hb=>by
        have hl:=za7 hb
        rw[hg.block _ (by simp;omega) HBN.out,za5 _ _ hl];exact hb)
      have hw1:wr.heap.size≠w.heap.size:=by omega
      have hw2:w.heap.size≠wr.heap.size:=by omega
      have HPV:Hid (∀ X,Below wr.heap.size wr X→Calls Tryz.prog 174 #[ptrV kb,.agg #[.int .u8 ah.toNat,.iface tt xx,.int .u8 be.toNat]] X fun e w'=>∃ v,e = .returned v∧∃ N2 y2 n x S2,v=cloV x∧x=((bx++y)++y2).getD n (0,0,0)∧n<N2.length∧Mk w' kb mb nb N2 ((bx++y)++y2) S2∧Goes N' N2∧N2.length≤N'.length+2 * wtT T∧DnT N2 names n T∧KpM [kb] X.heap.size X w'∧GrS X S' S2):=hideP (fun X hX=>(HPC.out X hX).mono (by
        rintro e w' ⟨N2,y2,n,x,S2,rfl,h⟩
        exact⟨_,rfl,N2,y2,n,x,S2,rfl,h⟩))
      go_region_law
        (first
          | (refine step_call (by rfl) 174 #[ptrV kb,.agg #[.int .u8 ah.toNat,.iface tt xx,.int .u8 be.toNat]] (by go_simp) (HPV.out _ ((za1 wr _).drew)) ?_;rintro _ w1 ⟨N2,y2,n,x,S2,rfl,hx,hn,h1,hg,hl,hd,hK,hS⟩;have HX:=hideP hx;have HC:=hideP (HC1.out _ w1 N2 y2 S2 ((za1 wr _).drew) h1 hg hl hK hS);have s1:=za0 HC.out.1 0;have q0:=za0 (z0.out w1 hK) 0;have q1:=za0 (z0.out w1 hK) 1;have q2:=za0 (z0.out w1 hK) 2;have hlt1:=za3 HC.out.1;have hlt2:=za3 (z0.out w1 hK);have HM1:=hideP h1;have HG:=hideP hg;have HL:=hideP hl;have HD:=hideP hd;have HKK:=hideP hK;have HSS:=hideP hS;have HNN2:=hideP hn;clear hx h1 hg hl hd hK hS hn)
          | (refine step_append_lies _ (by rfl) _ _ _ (by rfl) (w.heap.size+1) 226 i0 _ 1 8 Tryz.underlying175 hi0 hz0 hz1 hz2 (by rfl) (by decide) _ _ _ (by rfl) (HC.out.2.alloc _) ⟨w1.heap.size,0,none⟩ 1 1 [cloV x] (by rfl) (by rfl) (World.news_of_block (za4 w1 _)) (by intro u hu;simp at hu;subst hu;rfl) (by decide) HML.out (by omega) (by simp;omega) (w1.heap.size+1) (by simp) ?_;intro g2 cap2 w6 hown1 hgrow hat hlt3;have t1:=grownC hgrow s1 HBN.out;have t2:=grownC hgrow q0 HTN.out;have t3:=grownC hgrow q1 HTN.out;have t4:=grownC hgrow q2 HTN.out;have f1:=za2 (HN.out _ _ _ hgrow HC.out.1) 0;have hlt6:=za3 (HN.out _ _ _ hgrow HC.out.1);have HF:=HGO.out _ w1 N2 y2 n x S2 w6 g2 cap2 _ ((za1 wr _).drew) HX.out HNN2.out HM1.out HG.out HL.out HD.out HKK.out HSS.out hown1 hgrow hat;clear hown1 hgrow hat))
      all_goals go_wp2_with fail
      all_goals
        go_roundg (s.length - (i+1))
        case measure=>omega
        case rel=>exact⟨i+1,_,_,_,_,_,_,rfl,by go_num,by omega,HF⟩
    · have hlt':¬ (i:Int)<s.length:=by omega
      have hie:i=s.length:=by omega
      have k0:wr.cell? ⟨kb,0,none⟩=some (ptrV mb):=za0 HI.out.mkr.blk 0
      have hkl2:kb<wr.heap.size:=by omega
      have HCL:=hideP (HI.out.seq hml hkl (by have:=HI.out.cnt;have:=HNN.out;have:=sumT_le s i;have:=HSE.out;omega) (by omega))
      have HEND:Hid (∀ (w':World) (x:Nat × Nat × Nat) (S2:Nat→Prop),Mk w' kb mb nb (N'++[Nd.seq ks]) (bx++(y++[x])) S2→KpM [kb] w.heap.size w w'→GrS w S S2→Mak kb mb nb N bx S (2 * wtS s) (fun N' n=>∃ ks,N'[n]? = some (.seq ks)∧DnS N' names ks s) w (.returned (cloV x)) w'):=hideP (fun w' x S2 h1 h2 h3=>by
        have hc:=HI.out.cnt
        have hsl:=sumT_le s i
        have hse:=HSE.out
        have hok:=HI.out.ok
        rw[hie,List.take_of_length_le (Nat.le_refl _)] at hok
        refine⟨N'++[Nd.seq ks],y++[x],N'.length,x,S2,rfl,?_,by simp,h1,HI.out.goes.trans (Goes.app _ _),by simp;omega,⟨ks,zcw _ _,DnS.goes (Goes.app _ _) _ hok⟩,h2,h3⟩
        rw[← List.append_assoc,List.getD_eq_getElem?_getD,List.getElem?_append_right (by rw[HI.out.mkr.len];exact Nat.le_refl _),HI.out.mkr.len,Nat.sub_self];rfl)
      clear b0
      go_wp2_with fail
      refine HCL.out.mono ?_
      rintro _ w6 ⟨x,S2,rfl,h1,h2,h3⟩
      have HZ:=hideP (HEND.out w6 x S2 h1 h2 h3)
      clear h1 h2 h3
      go_wp2_with fail
      go_ret
      exact HZ.out
theorem zasLitLit (x:Value) (w:World):(Instr.typeAssert (.iface 319 x) 247 319 true).run Tryz.prog w = .ok (.tuple #[x,.bool true]) w:=by kernel_rfl
theorem zasClsLit (x:Value) (w:World):(Instr.typeAssert (.iface 321 x) 247 319 true).run Tryz.prog w = .ok (.tuple #[.agg #[.string ⟨#[]⟩],.bool false]) w:=by kernel_rfl
theorem zasClsCls (x:Value) (w:World):(Instr.typeAssert (.iface 321 x) 247 321 true).run Tryz.prog w = .ok (.tuple #[x,.bool true]) w:=by kernel_rfl
theorem zasAnyLit (x:Value) (w:World):(Instr.typeAssert (.iface 345 x) 247 319 true).run Tryz.prog w = .ok (.tuple #[.agg #[.string ⟨#[]⟩],.bool false]) w:=by kernel_rfl
theorem zasAnyCls (x:Value) (w:World):(Instr.typeAssert (.iface 345 x) 247 321 true).run Tryz.prog w = .ok (.tuple #[.agg #[.slice none 0 0],.bool false]) w:=by kernel_rfl
theorem zasGroupLit (x:Value) (w:World):(Instr.typeAssert (.iface 296 x) 247 319 true).run Tryz.prog w = .ok (.tuple #[.agg #[.string ⟨#[]⟩],.bool false]) w:=by kernel_rfl
theorem zasGroupCls (x:Value) (w:World):(Instr.typeAssert (.iface 296 x) 247 321 true).run Tryz.prog w = .ok (.tuple #[.agg #[.slice none 0 0],.bool false]) w:=by kernel_rfl
theorem zfe (k:Nat) (hC:∀ k',k'<k→MakC k'):MakP k:=by
 intro w kb mb nb N bx S names A p v h hnm hp hA hk hok hN hw
 have hmf:∀ (fn:Fn) (first cap:Array Value) (w:World),(Instr.makeFunc fn first cap).run Tryz.prog w = .ok (.func fn first cap) w:=fun _ _ _ _=>rfl
 have HL:=hideP h.len
 cases p with
 | name b=>
  simp only[RPiece] at hp
  obtain⟨rfl,hbl⟩:=hp
  have HM:=hideP (fun O=>nameOf_any (h.below (za1 w O)) (by omega) names (hnm.below (za1 w O)) b hbl)
  have a1:=zcV
  clear hk hw hC h hnm hN hok
  go_enter Tryz.func199,Tryz.ntmps199
  go_wp2_with fail
  refine (HM.out _).mono ?_
  rintro _ w1 hm
  have hmk:=Made1.mak (wt:=2 * wtP (.name b)+1) (P:=fun N' n=>DnP N' names n (.name b)) (za1 w _) HL.out (by simp only[DnP];exact zcw _ _) (by omega) hm
  obtain⟨x,S1,rfl,_,_,_⟩:=hm
  clear HM
  go_wp2_with fail
  go_ret
  exact hmk
 | lit b=>
  simp only[RPiece] at hp
  subst hp
  simp only[okP] at hok
  have HM:=hideP (fun O=>literal_any (h.below (za1 w O)) (by omega) b hok.2)
  have a1:=zdo
  have a2:=zasLitLit
  clear hk hw hC h hnm hN hok
  go_enter Tryz.func199,Tryz.ntmps199
  go_wp2_with fail
  refine (HM.out _).mono ?_
  rintro _ w1 hm
  have hmk:=Made1.mak (wt:=2 * wtP (.lit b)+1) (P:=fun N' n=>DnP N' names n (.lit b)) (za1 w _) HL.out (by simp only[DnP];exact zcw _ _) (by omega) hm
  obtain⟨x,S1,rfl,_,_,_⟩:=hm
  clear HM
  go_wp2_with fail
  go_ret
  exact hmk
 | cls l=>
  simp only[RPiece] at hp
  obtain⟨u,rfl,hs⟩:=hp
  obtain⟨ua,uc,rfl⟩:=za9 hs
  simp only[okP] at hok
  have HM:=hideP (fun O=>classOf_any (h.below (za1 w O)) (by omega) (.slice ua l.length uc) l (zaq hs (za1 w O)) hok)
  have a1:=zds
  have a2:=zasClsLit
  have a3:=zasClsCls
  have HP:Hid (∀ (e:Ending) (w1:World) (O:Obj),Made1 kb mb nb N bx S (.cls l) (w.alloc O) e w1→Mak kb mb nb N bx S (2 * wtP (.cls l)+1) (fun N' n=>DnP N' names n (.cls l)) w e w1):=hideP (fun e w1 O hm=>Made1.mak (za1 w O) HL.out (by simp only[DnP];exact zcw _ _) (by omega) hm)
  clear hk hw hC h hnm hN hok hs
  generalize l.length=n at *
  go_enter Tryz.func199,Tryz.ntmps199
  go_wp2_with fail
  refine (HM.out _).mono ?_
  rintro _ w1 hm
  have hmk:=HP.out _ _ _ hm
  obtain⟨x,S1,rfl,_,_,_⟩:=hm
  clear HM
  go_wp2_with fail
  go_ret
  exact hmk
 | any=>
  simp only[RPiece] at hp
  subst hp
  have HM:=hideP (singleAny_any h (by omega))
  have a1:=zdn
  have a2:=zasAnyLit
  have a3:=zasAnyCls
  have a4:=zck
  clear hk hw hC h hnm hN hok
  go_enter Tryz.func199,Tryz.ntmps199
  go_wp2_with fail
  refine HM.out.mono ?_
  rintro _ w1 hm
  have hmk:=Made1.mak (wt:=2 * wtP .any+1) (P:=fun N' n=>DnP N' names n .any) (Below.refl _ _) HL.out (by simp only[DnP];exact zcw _ _) (by omega) hm
  obtain⟨x,S1,rfl,_,_,_⟩:=hm
  clear HM
  go_wp2_with fail
  go_ret
  exact hmk
 | group c=>
  simp only[RPiece] at hp
  obtain⟨u,us,rfl,hrow,hseqs⟩:=hp
  obtain⟨ua,uc,rfl⟩:=za9 hrow.1
  have hdep:depC c<k:=by simp only[depP] at hk;omega
  simp only[wtP] at hw hN
  simp only[okP] at hok
  have HM:=hideP (fun O=>hC _ hdep (w.alloc O) kb mb nb N bx S names A c (.slice ua c.length uc) (h.below (za1 w O)) (hnm.below (za1 w O)) (RChoice.kept (zau (za1 w O)) ⟨us,hrow,hseqs⟩) hA (Nat.le_refl _) hok (by omega) (by omega))
  have a1:=zcC
  have a2:=zasGroupLit
  have a3:=zasGroupCls
  have a4:=zbH
  simp only[wtP]
  generalize c.length=n at *
  clear hk hw hC h hnm hN hok hrow hseqs hdep hA
  go_enter Tryz.func199,Tryz.ntmps199
  go_wp2_with fail
  refine (HM.out _).mono ?_
  rintro _ w1 ⟨N1,y,n,x,S1,rfl,hx,hn,h1,hg,hl,hd,hK,hS⟩
  have HX:=hideP hx
  clear HM hx
  go_wp2_with fail
  go_ret
  exact⟨N1,y,n,x,S1,rfl,HX.out,hn,h1,hg,by omega,hd,hK.alloc,(GrS.refl _ _).below hS (za1 _ _)⟩
end Go.Proofs.YtiganlkabilblaaGreatDoor
