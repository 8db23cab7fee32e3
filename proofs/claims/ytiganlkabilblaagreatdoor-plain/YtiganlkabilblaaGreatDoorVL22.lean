import Derived.Test.YtiganlkabilblaaGreatDoorVL21
import Derived.Deep.RegionHeldLaw
import Derived.Deep.AppendLies
import Derived.Test.YtiganlkabilblaaGreatDoorVL14
import Derived.Deep.QuietTactic
import Derived.BigQuiet
import Derived.RegionTactic
import Derived.BigRegion
import Derived.Deep.RegionHeld
set_option linter.all false
set_option maxHeartbeats 64000000
set_option maxRecDepth 100000
namespace Go.Proofs.YtiganlkabilblaaGreatDoor
open Go.RowKit Thk
attribute [local go_sem ↓] Go.wp_at_zero Go.wp_at_succ
theorem Uo {kb mb nb:Nat} {N:List Nd} {bx:List (Nat × Nat × Nat)} {n:Nat} {x:Nat × Nat × Nat} {S:Nat→Prop} {d:Nd} {F:FuncId} {w:World} (hx:x=bx.getD n (0,0,0)) (h:Calls Tryz.prog F #[z9 kb,clV bx n] w (Qg kb mb nb N bx S d w)):Calls Tryz.prog F #[z9 kb,zT x] w (Qg kb mb nb N bx S d w):=by
 rw[hx];exact h
theorem zfx (k:Nat) (hP:zaL k):zaK k:=by
 intro w kb mb nb N bx S names A a p b v h hnm ht hA hk hok hN hw
 obtain⟨vt,vx,rfl⟩:=zp.oneCell ht
 simp only[okT] at hok
 simp only[QN,Thk.Term.ahead,Thk.Term.behind]
 have HPC:=z6 (fun O=>hP (w.alloc O) kb mb nb N bx S names A p (.iface vt vx) (h.below (zc w O)) (hnm.below (zc w O)) (zp.kept (ZF (zc w O)) p _ ht) hA hk hok.2.2 (by omega) hw)
 have hkl:=zd h.blk
 have hob:=hok.2.1
 have HN:=z6 hN
 have HKB:=z6 h.blk
 clear h hnm ht hok hP hk hN hA
 rcases hob with rfl | rfl | rfl | rfl
 ·go_enter Tryz.func190,Tryz.ntmps190
  go_wp2_with fail
  refine (HPC.out _).mono ?_
  rintro _ w1 ⟨N1,y,n,x,S1,rfl,hx,hn,h1,hg,hl,hd,hK,hS⟩
  have o2:w1.cell? ⟨w.heap.size,2,none⟩=some (.int .u8 0):=z8 (KpM.own (by simpa using hkl) hK) 2
  have HK:=z6 hK.alloc
  have HS:=z6 ((GrS.refl _ _).below hS (zc w _))
  have HK1:=z6 h1.blk
  have HR:Hid (DnI N1 names n p 0):=z6 ⟨n,by simp,hd⟩
  have HX:=z6 hx
  clear hK hd HK1 hx
  go_wp2_with fail
  go_ret
  exact⟨N1,y,n,x,S1,rfl,HX.out,hn,h1,hg,by omega,HR.out,HK.out,(GrS.refl _ _).below hS (zc _ _)⟩
 ·go_enter Tryz.func190,Tryz.ntmps190
  go_wp2_with fail
  refine (HPC.out _).mono ?_
  rintro _ w1 ⟨N1,y,n,x,S1,rfl,hx,hn,h1,hg,hl,hd,hK,hS⟩
  have o2:w1.cell? ⟨w.heap.size,2,none⟩=some (.int .u8 63):=z8 (KpM.own (by simpa using hkl) hK) 2
  have HK:=z6 hK.alloc
  have HS:=z6 ((GrS.refl _ _).below hS (zc w _))
  have HK1:=z6 h1.blk
  have HM:=z6 (Uo hx (zbQ h1 (by have:=HN.out;omega) n hn))
  have HR:Hid (DnI (N1++[Nd.maybe n]) names N1.length p 63):=z6 ⟨n,by simp,DnP.goes (Goes.app _ _) p hd⟩
  have HL:=z6 h1.len
  clear hK hd h1 hx hS
  simp only[zT] at HM ⊢
  go_wp2_with fail
  refine HM.out.mono ?_
  rintro _ w2 hm
  have hmk:=Mak.then1 (wt:=2 * wtP p+3) (P:=fun N' n=>DnI N' names n p 63) HKB.out HK1.out hg HL.out hl HK.out HS.out HR.out (by omega) hm
  obtain⟨x2,S2,rfl,h2,h3,h4⟩:=hm
  go_wp2_with fail
  go_ret
  exact hmk
 ·go_enter Tryz.func190,Tryz.ntmps190
  go_wp2_with fail
  refine (HPC.out _).mono ?_
  rintro _ w1 ⟨N1,y,n,x,S1,rfl,hx,hn,h1,hg,hl,hd,hK,hS⟩
  have o2:w1.cell? ⟨w.heap.size,2,none⟩=some (.int .u8 42):=z8 (KpM.own (by simpa using hkl) hK) 2
  have HK:=z6 hK.alloc
  have HS:=z6 ((GrS.refl _ _).below hS (zc w _))
  have HK1:=z6 h1.blk
  have HM:=z6 (Uo hx (zc7 h1 (by have:=HN.out;omega) n hn))
  have HR:Hid (DnI (N1++[Nd.plus n]++[Nd.maybe N1.length]) names (N1++[Nd.plus n]).length p 42):=z6 ⟨n,by
   rw[if_neg (by decide),if_neg (by decide),if_neg (by decide)]
   exact⟨N1.length,by simp,by simp⟩,DnP.goes ((Goes.app _ _).trans (Goes.app _ _)) p hd⟩
  have HL:=z6 h1.len
  clear hK hd h1 hx hS
  simp only[zT] at HM ⊢
  go_wp2_with fail
  refine HM.out.mono ?_
  rintro _ w2 ⟨x2,S2,rfl,h2,h3,h4⟩
  have HK2:=z6 (HK.out.go h3)
  have HK12:=z6 h2.blk
  have HS2:=z6 (HS.out.trans h4 HKB.out ⟨_,HK1.out⟩ (Up.of_kpM HK.out))
  have hx2:x2=(bx++(y++[x2])).getD N1.length (0,0,0):=by
   rw[← List.append_assoc,List.getD_eq_getElem?_getD,List.getElem?_append_right (by rw[HL.out];exact Nat.le_refl _),HL.out,Nat.sub_self];rfl
  rw[List.append_assoc] at h2
  have HM2:=z6 (Uo hx2 (zbQ h2 (by have:=HN.out;simp;omega) N1.length (by simp)))
  have HL2:=z6 h2.len
  clear h2 h3 h4 hx2 HM
  simp only[zT] at HM2 ⊢
  go_wp2_with fail
  refine HM2.out.mono ?_
  rintro _ w3 hm
  have hmk:=Mak.then1 (wt:=2 * wtP p+3) (wt1:=2 * wtP p+2) (P:=fun N' n=>DnI N' names n p 42) HKB.out HK12.out (hg.trans (Goes.app _ _)) HL2.out (by simp;omega) HK2.out HS2.out HR.out (by omega) hm
  obtain⟨x3,S3,rfl,_,_,_⟩:=hm
  go_wp2_with fail
  go_ret
  exact hmk
 ·go_enter Tryz.func190,Tryz.ntmps190
  go_wp2_with fail
  refine (HPC.out _).mono ?_
  rintro _ w1 ⟨N1,y,n,x,S1,rfl,hx,hn,h1,hg,hl,hd,hK,hS⟩
  have o2:w1.cell? ⟨w.heap.size,2,none⟩=some (.int .u8 43):=z8 (KpM.own (by simpa using hkl) hK) 2
  have HK:=z6 hK.alloc
  have HS:=z6 ((GrS.refl _ _).below hS (zc w _))
  have HK1:=z6 h1.blk
  have HM:=z6 (Uo hx (zc7 h1 (by have:=HN.out;omega) n hn))
  have HR:Hid (DnI (N1++[Nd.plus n]) names N1.length p 43):=z6 ⟨n,by rw[if_neg (by decide),if_neg (by decide),if_pos rfl];simp,DnP.goes (Goes.app _ _) p hd⟩
  have HL:=z6 h1.len
  clear hK hd h1 hx hS
  simp only[zT] at HM ⊢
  go_wp2_with fail
  refine HM.out.mono ?_
  rintro _ w2 hm
  have hmk:=Mak.then1 (wt:=2 * wtP p+3) (P:=fun N' n=>DnI N' names n p 43) HKB.out HK1.out hg HL.out hl HK.out HS.out HR.out (by omega) hm
  obtain⟨x2,S2,rfl,h2,h3,h4⟩:=hm
  go_wp2_with fail
  go_ret
  exact hmk
theorem zj8 (k:Nat) (hI:zaK k):zaN k:=by
 intro w kb mb nb N bx S names A t v h hnm ht hA hk hok hN hw
 obtain⟨a,p,b⟩:=t
 simp only[Zk] at ht
 simp only[Jx] at hk
 simp only[wtT] at hN hw ⊢
 obtain⟨vt,vx,rfl⟩:=zp.oneCell ht
 simp only[QN,Thk.Term.ahead,Thk.Term.behind]
 have HPC:=z6 (fun O=>hI (w.alloc O) kb mb nb N bx S names A a p b (.iface vt vx) (h.below (zc w O)) (hnm.below (zc w O)) (zp.kept (ZF (zc w O)) p _ ht) hA hk hok (by omega) (by omega))
 simp only[QN,Thk.Term.ahead,Thk.Term.behind] at HPC
 have hkl:=zd h.blk
 simp only[okT] at hok
 have hoa:=hok.1
 have HN:=z6 hN
 have HKB:=z6 h.blk
 clear h hnm ht hok hI hk hN hA
 rcases hoa with rfl | rfl | rfl
 ·go_enter Tryz.func174,Tryz.ntmps174
  go_wp2_with fail
  refine (HPC.out _).mono ?_
  rintro _ w1 ⟨N1,y,n,x,S1,rfl,hx,hn,h1,hg,hl,hd,hK,hS⟩
  have o2:w1.cell? ⟨w.heap.size,0,none⟩=some (.int .u8 0):=z8 (KpM.own (by simpa using hkl) hK) 0
  have HK:=z6 hK.alloc
  have HS:=z6 ((GrS.refl _ _).below hS (zc w _))
  have HK1:=z6 h1.blk
  have HR:Hid (DnT N1 names n (.mk 0 p b)):=z6 (by simp only[DnT];exact⟨n,by simp,hd⟩)
  have HX:=z6 hx
  clear hK hd HK1 hx
  go_wp2_with fail
  go_ret
  exact⟨N1,y,n,x,S1,rfl,HX.out,hn,h1,hg,by omega,HR.out,HK.out,(GrS.refl _ _).below hS (zc _ _)⟩
 ·go_enter Tryz.func174,Tryz.ntmps174
  go_wp2_with fail
  refine (HPC.out _).mono ?_
  rintro _ w1 ⟨N1,y,n,x,S1,rfl,hx,hn,h1,hg,hl,hd,hK,hS⟩
  have o2:w1.cell? ⟨w.heap.size,0,none⟩=some (.int .u8 38):=z8 (KpM.own (by simpa using hkl) hK) 0
  have HK:=z6 hK.alloc
  have HS:=z6 ((GrS.refl _ _).below hS (zc w _))
  have HK1:=z6 h1.blk
  have HM:Hid (Calls Tryz.prog 191 #[z9 kb,zT x,.bool true] w1 (Qg kb mb nb N1 (bx++y) S1 (.ahead n true) w1)):=z6 (by have:=zaV h1 (by have:=HN.out;omega) n hn true;rw[hx];exact this)
  have HR:Hid (DnT (N1++[Nd.ahead n true]) names N1.length (.mk 38 p b)):=z6 (by
   have hgo:=zbq (Goes.app N1 [Nd.ahead n true]) hd
   simp only[DnT]
   exact⟨n,by rw[if_neg (by decide)];simp,hgo⟩)
  have HL:=z6 h1.len
  clear hK hd h1 hx hS
  simp only[zT] at HM ⊢
  go_wp2_with fail
  refine HM.out.mono ?_
  rintro _ w2 hm
  have hmk:=Mak.then1 (wt:=2 * (2+wtP p)) (P:=fun N' n=>DnT N' names n (.mk 38 p b)) HKB.out HK1.out hg HL.out hl HK.out HS.out HR.out (by omega) hm
  obtain⟨x2,S2,rfl,h2,h3,h4⟩:=hm
  go_wp2_with fail
  go_ret
  exact hmk
 ·go_enter Tryz.func174,Tryz.ntmps174
  go_wp2_with fail
  refine (HPC.out _).mono ?_
  rintro _ w1 ⟨N1,y,n,x,S1,rfl,hx,hn,h1,hg,hl,hd,hK,hS⟩
  have o2:w1.cell? ⟨w.heap.size,0,none⟩=some (.int .u8 33):=z8 (KpM.own (by simpa using hkl) hK) 0
  have HK:=z6 hK.alloc
  have HS:=z6 ((GrS.refl _ _).below hS (zc w _))
  have HK1:=z6 h1.blk
  have HM:Hid (Calls Tryz.prog 191 #[z9 kb,zT x,.bool false] w1 (Qg kb mb nb N1 (bx++y) S1 (.ahead n false) w1)):=z6 (by have:=zaV h1 (by have:=HN.out;omega) n hn false;rw[hx];exact this)
  have HR:Hid (DnT (N1++[Nd.ahead n false]) names N1.length (.mk 33 p b)):=z6 (by
   have hgo:=zbq (Goes.app N1 [Nd.ahead n false]) hd
   simp only[DnT]
   exact⟨n,by rw[if_neg (by decide)];simp,hgo⟩)
  have HL:=z6 h1.len
  clear hK hd h1 hx hS
  simp only[zT] at HM ⊢
  go_wp2_with fail
  refine HM.out.mono ?_
  rintro _ w2 hm
  have hmk:=Mak.then1 (wt:=2 * (2+wtP p)) (P:=fun N' n=>DnT N' names n (.mk 33 p b)) HKB.out HK1.out hg HL.out hl HK.out HS.out HR.out (by omega) hm
  obtain⟨x2,S2,rfl,h2,h3,h4⟩:=hm
  go_wp2_with fail
  go_ret
  exact hmk
end Go.Proofs.YtiganlkabilblaaGreatDoor
namespace Go.Proofs.YtiganlkabilblaaGreatDoor
open Go.RowKit Thk
theorem zcV {P:Program} {ops:Array Oper} {o:Oper} {a:Act} {w:World} {K:Act→World→Prop} {Q:Exit→Act→World→Prop} {E:Prop} (hgd:o.guard=none) (f:FuncId) (args:Array Value) (hx:(execOp a.eval o).run P w = .ok (.enter f args) w) {R:Value→World→Prop}
  (hc:Calls P f args w fun e w'=>∃ v,e = .returned v∧R v w') (h:∀ v w',R v w'→K (a.put o.dst v) w'):if Region.wanted o (yielded ops a.tmps)=true then Oper.wp P o a w K Q else E:=by
 have hw:Region.wanted o (yielded ops a.tmps)=true:=by simp[Region.wanted,hgd]
 rw[if_pos hw]
 unfold Oper.wp
 rw[hx]
 simp only[Oper.upon]
 refine hc.mono ?_
 rintro e w' ⟨v,rfl,hR⟩
 exact h v w' hR
structure LpM (w:World) (kb mb nb:Nat) (N:List Nd) (bx:List (Nat × Nat × Nat)) (S:Nat→Prop) (wt:Nat) (P:List Nd→List Nat→Prop) (i:Nat) (a:Option Addr) (c:Nat) (wr:World) (N':List Nd) (y:List (Nat × Nat × Nat)) (ks:List Nat) (S':Nat→Prop):Prop where
 mkr:Mk wr kb mb nb N' (bx++y) S'
 goes:Goes N N'
 cnt:N'.length≤N.length+wt
 ok:P N' ks
 lt:∀ k ∈ ks,k<N'.length
 len:ks.length=i
 box:wr.heap[w.heap.size]? = some (zh (.slice a i c) 175)
 row:wr.ownsRow (w.heap.size+1) 226 1 (.slice a i c) i (ks.map (clV (bx++y)))
 nbx:¬ S' w.heap.size
 nr:∀ g,(Value.slice a i c).ownBlock=some g→¬ S' g
 kp:KpM [kb] w.heap.size w wr
 gr:GrS w S S'
theorem LpM.start {w:World} {kb mb nb:Nat} {N:List Nd} {bx:List (Nat × Nat × Nat)} {S:Nat→Prop} {P:List Nd→List Nat→Prop} (h:Mk w kb mb nb N bx S) (hP:P N []):LpM w kb mb nb N bx S 0 P 0 none 0 (w.alloc (zh (.slice none 0 0) 175)) N [] [] S:=by
 refine⟨by rw[List.append_nil];exact h.below (zc _ _),Goes.refl _,by omega,hP,by simp,rfl,zk _ _,World.ownsRow_nil _ _ _ _,fun hs=>by have:=h.lt _ hs;omega,by simp[Value.ownBlock],KpM.of_below (zc _ _),GrS.refl _ _⟩
theorem zgv {bx y2:List (Nat × Nat × Nat)} {ks:List Nat} (h:∀ k ∈ ks,k<bx.length):ks.map (clV (bx++y2))=ks.map (clV bx):=List.map_congr_left (fun k hk=>Y5 (h k hk) y2)
theorem LpM.call {w wr wA w1:World} {kb mb nb:Nat} {N N' N2:List Nd} {bx y y2:List (Nat × Nat × Nat)} {S S' S2:Nat→Prop} {wt wt2:Nat} {P:List Nd→List Nat→Prop} {i:Nat} {a:Option Addr} {c:Nat} {ks:List Nat} (h:LpM w kb mb nb N bx S wt P i a c wr N' y ks S') (hkl:kb<w.heap.size) (hkw:w.heap[kb]? = some (Qd mb (.map (some nb)) N.length))
  (hA:Below wr.heap.size wr wA) (h1:Mk w1 kb mb nb N2 ((bx++y)++y2) S2) (hg:Goes N' N2) (hn:N2.length≤N'.length+wt2) (hK:KpM [kb] wA.heap.size wA w1) (hS:GrS wA S' S2) (hP:P N2 ks) (hlen:N'.length≤N2.length):LpM w kb mb nb N bx S (wt+wt2) P i a c w1 N2 (y++y2) ks S2:=by
 have hKr:KpM [kb] wr.heap.size wr w1:=(KpM.of_below hA).trans (hK.mono hA.size)
 have hbl:=zd h.box
 have hSr:GrS wr S' S2:=(GrS.refl _ _).below hS hA
 have hcnt:=h.cnt
 refine⟨by rw[← List.append_assoc];exact h1,h.goes.trans hg,by omega,hP,fun k hk=>Nat.lt_of_lt_of_le (h.lt k hk) hlen,h.len,?_,?_,?_,?_,h.kp.go hKr,h.gr.trans hSr hkw ⟨_,h.mkr.blk⟩ (Up.of_kpM h.kp)⟩
 ·rw[hKr.block _ hbl (by simp;omega)];exact h.box
 ·rw[← List.append_assoc,zgv (fun k hk=>by rw[h.mkr.len];exact h.lt k hk)]
  exact Z6 h.row (fun g hgb=>hKr.block g (h.row.lt g hgb).2 (by have:=(h.row.lt g hgb).1;simp;omega))
 ·intro hs
  rcases hSr _ hs with h' | h' | ⟨cur,h'⟩
  ·exact h.nbx h'
  ·omega
  ·rw[h.box] at h';simp at h'
 ·intro g hgb hs
  rcases hSr _ hs with h' | h' | ⟨cur,h'⟩
  ·exact h.nr g hgb h'
  ·have:=(h.row.lt g hgb).2;omega
  ·obtain⟨cur2,hc⟩:=Zr h.row hgb
   rw[hc] at h';simp at h'
theorem LpM.put {w w1 w5:World} {kb mb nb:Nat} {N N':List Nd} {bx y:List (Nat × Nat × Nat)} {S S':Nat→Prop} {wt:Nat} {P P':List Nd→List Nat→Prop} {i:Nat} {a va:Option Addr} {c vc:Nat} {ks:List Nat} {O:Obj} {n:Nat} {x:Nat × Nat × Nat} (h:LpM w kb mb nb N bx S wt P i a c w1 N' y ks S') (hkl:kb<w.heap.size)
  (hx:x=(bx++y).getD n (0,0,0)) (hn:n<N'.length) (hP:P' N' (ks++[n])) (hown:w5.ownsRow (w.heap.size+1) 226 1 (.slice va (i+1) vc) (i+1) (ks.map (clV (bx++y))++[zT x])) (hgrow:(w1.alloc O).grownBy w5 (Value.slice a i c).ownBlock) (hat:(Value.slice va (i+1) vc).ownBlock=(Value.slice a i c).ownBlock∨(Value.slice va (i+1) vc).ownBlock=some (w1.alloc O).heap.size) :
  LpM w kb mb nb N bx S wt P' (i+1) va vc (w5.setCell ⟨w.heap.size,0,none⟩ (.slice va (i+1) vc)) N' y (ks++[n]) S':=by
 have hs2:=hgrow.size
 simp at hs2
 have hbl:=zd h.box
 have hks:=h.kp.size
 have hb5:∀ g,g<w1.heap.size→some g≠(Value.slice a i c).ownBlock→w5.heap[g]? = w1.heap[g]? := fun g hg hne=>by
  rw[hgrow.block g (by simp;omega) hne,zm _ _ hg]
 have hbox5:w5.heap[w.heap.size]? = some (zh (.slice a i c) 175):=by
  rw[hb5 _ hbl (fun e=>by have:=(h.row.lt _ e.symm).1;omega)];exact h.box
 have hsz6:(w5.setCell ⟨w.heap.size,0,none⟩ (.slice va (i+1) vc)).heap.size=w5.heap.size:=by simp[World.setCell]
 refine⟨h.mkr.same (by rw[hsz6];omega) (fun g hg=>?_) ?_,h.goes,h.cnt,hP,?_,by simp[h.len],?_,?_,h.nbx,?_,?_,h.gr⟩
 ·rw[Below.heap_setCell _ _ _ _ (fun e=>by subst e;exact h.nbx hg)]
  exact hb5 g (h.mkr.lt g hg) (fun e=>h.nr g e.symm hg)
 ·rw[Below.heap_setCell _ _ _ _ (by simp;omega)]
  exact hb5 kb (by omega) (fun e=>by have:=(h.row.lt _ e.symm).1;omega)
 ·intro k hk
  rcases List.mem_append.1 hk with hk | hk
  ·exact h.lt k hk
  ·simp at hk;subst hk;exact hn
 ·rw[zo hbox5];rfl
 ·rw[List.map_append]
  have he:[n].map (clV (bx++y))=[zT x]:=by simp[clV,hx]
  rw[he]
  exact Z6 hown (fun g hg=>Below.heap_setCell _ _ _ _ (by have:=(hown.lt g hg).1;simp;omega))
 ·intro g hg hs
  rcases hat with e | e
  ·exact h.nr g (by rw[← e];exact hg) hs
  ·have h1:=h.mkr.lt g hs
   rw[e] at hg
   simp at hg
   omega
 ·refine⟨hgrow.os.trans h.kp.os,hgrow.tape.trans h.kp.tape,hgrow.output.trans h.kp.output,by rw[hsz6];omega,fun k hk hn=>?_⟩
  rw[Below.heap_setCell _ _ _ _ (by simp;omega),hb5 k (by omega) (fun e=>by have:=(h.row.lt _ e.symm).1;omega)]
  exact h.kp.block k hk hn
theorem LpM.rowC {w wr w':World} {kb mb nb:Nat} {N N':List Nd} {bx y:List (Nat × Nat × Nat)} {S S':Nat→Prop} {wt:Nat} {P:List Nd→List Nat→Prop} {i:Nat} {a:Option Addr} {c:Nat} {ks:List Nat} (h:LpM w kb mb nb N bx S wt P i a c wr N' y ks S') (hml:mb<w.heap.size) (hs:wr.heap.size≤w'.heap.size) (hg:∀ g,(Value.slice a i c).ownBlock=some g→w'.heap[g]? = wr.heap[g]?) (x:Nat × Nat × Nat):Yu w' mb (bx++y++[x]) ks a:=by
 intro j hj
 have hlen:=h.len
 obtain⟨g,ha,hcs,hgl⟩:=Jk h.row (by omega)
 have hob:(Value.slice a i c).ownBlock=some g:=by rw[ha];rfl
 refine⟨g,ha,by omega,by have:=(h.row.lt g hob).1;omega,?_⟩
 rw[Y5 (by rw[h.mkr.len];exact h.lt _ (List.getElem_mem hj))]
 have:=hcs j (by omega)
 simp only[World.cell?] at this ⊢
 rw[hg g hob,this,List.getElem?_map,List.getElem?_eq_getElem hj]
 rfl
theorem LpM.seq {w wr:World} {kb mb nb:Nat} {N N':List Nd} {bx y:List (Nat × Nat × Nat)} {S S':Nat→Prop} {wt:Nat} {P:List Nd→List Nat→Prop} {i:Nat} {a:Option Addr} {c:Nat} {ks:List Nat} (h:LpM w kb mb nb N bx S wt P i a c wr N' y ks S') (hml:mb<w.heap.size) (hkl:kb<w.heap.size) (hN:N'.length≤100000000) (hi:i≤1000000) :
  Calls Tryz.prog 150 #[z9 kb,.func (.func 175) #[] #[z9 wr.heap.size,z9 w.heap.size]] (wr.alloc (zh (z9 mb) 113)) fun e w'=>∃ x S2,e = .returned (zT x)∧Mk w' kb mb nb (N'++[.seq ks]) (bx++(y++[x])) S2∧KpM [kb] w.heap.size w w'∧GrS w S S2:=by
 have hbl:=zd h.box
 have hlen:=h.len
 refine (zab (h.mkr.below (zc wr (zh (z9 mb) 113))) hN 175 #[z9 wr.heap.size,z9 w.heap.size] (d:=.seq ks) h.lt (fun b=>b=w.heap.size∨b=wr.heap.size∨(Value.slice a i c).ownBlock=some b) ?_ ?_).mono ?_
 ·rintro b (rfl | rfl | hb)
  ·exact⟨by simp;omega,by omega⟩
  ·exact⟨by simp,by omega⟩
  ·have:=h.row.lt b hb
   exact⟨by simp;omega,by omega⟩
 ·intro x w' hs hE
  simp at hs
  refine⟨wr.heap.size,w.heap.size,a,c,rfl,?_,?_,h.rowC hml (by omega) (fun g hg=>?_) x,by omega⟩
  ·rw[hE _ (.inr (.inl rfl))];exact zk _ _
  ·rw[hE _ (.inl rfl),zm _ _ hbl,hlen];exact h.box
  ·rw[hE _ (.inr (.inr hg)),zm _ _ (h.row.lt g hg).2]
 ·rintro e w' ⟨x,S2,h1,h2,h3,h4⟩
  refine⟨x,S2,h1,by rw[← List.append_assoc];exact h2,h.kp.go (KpM.alloc h3),fun b hb=>?_⟩
  rcases h4 b hb with h' | (h' | h' | h') | h'
  ·exact h.gr b h'
  ·exact .inr (.inl (by omega))
  ·exact .inr (.inl (by omega))
  ·exact .inr (.inl (by have:=(h.row.lt b h').1;omega))
  ·simp at h'
   exact .inr (.inl (by omega))
theorem LpM.choice {w wr:World} {kb mb nb:Nat} {N N':List Nd} {bx y:List (Nat × Nat × Nat)} {S S':Nat→Prop} {wt:Nat} {P:List Nd→List Nat→Prop} {i:Nat} {a:Option Addr} {c:Nat} {ks:List Nat} (h:LpM w kb mb nb N bx S wt P i a c wr N' y ks S') (hml:mb<w.heap.size) (hkl:kb<w.heap.size) (hN:N'.length≤100000000) (hi:i≤1000000) :
  Calls Tryz.prog 150 #[z9 kb,.func (.func 151) #[] #[z9 w.heap.size]] wr fun e w'=>∃ x S2,e = .returned (zT x)∧Mk w' kb mb nb (N'++[.choice ks]) (bx++(y++[x])) S2∧KpM [kb] w.heap.size w w'∧GrS w S S2:=by
 have hbl:=zd h.box
 have hlen:=h.len
 refine (zab h.mkr hN 151 #[z9 w.heap.size] (d:=.choice ks) h.lt (fun b=>b=w.heap.size∨(Value.slice a i c).ownBlock=some b) ?_ ?_).mono ?_
 ·rintro b (rfl | hb)
  ·exact⟨hbl,by omega⟩
  ·have:=h.row.lt b hb
   exact⟨by omega,by omega⟩
 ·intro x w' hs hE
  refine⟨w.heap.size,a,c,rfl,?_,h.rowC hml hs (fun g hg=>hE _ (.inr hg)) x,by omega⟩
  rw[hE _ (.inl rfl),hlen];exact h.box
 ·rintro e w' ⟨x,S2,h1,h2,h3,h4⟩
  refine⟨x,S2,h1,by rw[← List.append_assoc];exact h2,h.kp.go h3,fun b hb=>?_⟩
  rcases h4 b hb with h' | (h' | h') | h'
  ·exact h.gr b h'
  ·exact .inr (.inl (by omega))
  ·exact .inr (.inl (by have:=(h.row.lt b h').1;omega))
  ·exact .inr (.inl (by omega))
end Go.Proofs.YtiganlkabilblaaGreatDoor
namespace Go.Proofs.YtiganlkabilblaaGreatDoor
open Go.RowKit Thk
attribute [local go_sem ↓] Go.wp_at_zero Go.wp_at_succ
theorem Tryz.infoExprF:(Tryz.prog.info? 226).map (fun i=>(i.zero,i.size,i.bytes))=some (some .nilFunc,1,8):=by kernel_rfl
theorem VA {w5 w6:World} {O:Obj} {row:Option Nat} {a:Addr} {u:Value} (hg:(w5.alloc O).grownBy w6 row) (h:w5.cell? a=some u) (hn:some a.block≠row):w6.cell? a=some u:=
 hg.cell (by rw[World.cell?_alloc_lt _ _ _ (World.block_lt_of_cell? _ _ h)];exact h) hn
theorem LpM.wt {w:World} {kb mb nb:Nat} {N:List Nd} {bx:List (Nat × Nat × Nat)} {S:Nat→Prop} {wt wt':Nat} {P:List Nd→List Nat→Prop} {i:Nat} {a:Option Addr} {c:Nat} {wr:World} {N':List Nd} {y:List (Nat × Nat × Nat)} {ks:List Nat} {S':Nat→Prop} (h:LpM w kb mb nb N bx S wt P i a c wr N' y ks S') (hw:wt≤wt'):LpM w kb mb nb N bx S wt' P i a c wr N' y ks S':=
 { h with cnt:=Nat.le_trans h.cnt (by omega) }
theorem LpM.upTo {w:World} {kb mb nb:Nat} {N:List Nd} {bx:List (Nat × Nat × Nat)} {S:Nat→Prop} {wt:Nat} {P:List Nd→List Nat→Prop} {i:Nat} {a:Option Addr} {c:Nat} {wr X:World} {N':List Nd} {y:List (Nat × Nat × Nat)} {ks:List Nat} {S':Nat→Prop} (h:LpM w kb mb nb N bx S wt P i a c wr N' y ks S') (hX:Below wr.heap.size wr X):Up kb w X:=
 Up.of_kpM (h.kp.go (KpM.of_below hX))
theorem LpM.lenLe {w w1:World} {kb mb nb:Nat} {N N' N2:List Nd} {bx y y2:List (Nat × Nat × Nat)} {S S' S2:Nat→Prop} {wt:Nat} {P:List Nd→List Nat→Prop} {i:Nat} {a:Option Addr} {c:Nat} {wr:World} {ks:List Nat} (h:LpM w kb mb nb N bx S wt P i a c wr N' y ks S') (h1:Mk w1 kb mb nb N2 ((bx++y)++y2) S2):N'.length≤N2.length:=by
 have e1:=h.mkr.len
 have e2:=h1.len
 rw[List.length_append] at e2
 omega
theorem zcp {w:World} {kb mb nb n g sz m:Nat} {e:TypeId} {v:Value} {xs:List Value} (hk:w.heap[kb]? = some (Qd mb (.map (some nb)) n)) (he:e≠224) (hs:w.ownsRow 0 e sz v m xs) (hg:v.ownBlock=some g):g≠kb:=by
 rintro rfl
 obtain⟨cur,hc⟩:=Zr hs hg
 rw[hk] at hc
 simp only[Option.some.injEq,Obj.cells.injEq] at hc
 exact he hc.2.1.symm
theorem ziE (k:Nat) (hT:zaN k):zaM k:=by
  intro w kb mb nb N bx S names A s u h hnm hs hA hk hok hN hw
  obtain⟨vs,⟨hrow,hAr⟩,hts⟩:=hs
  obtain⟨ua,uc,rfl⟩:=zl hrow
  have hmf:∀ (fn:Fn) (first cap:Array Value) (w:World),(Instr.makeFunc fn first cap).run Tryz.prog w = .ok (.func fn first cap) w:=fun _ _ _ _=>rfl
  have HVL:Hid (s.length=vs.length):=zD.length hts
  obtain⟨i0,hi0,hz0,hz1,hz2⟩:=info_parts Tryz.infoExprF
  have hsl:=zd4 s
  have hse:=zd2 s
  have hn1:s.length≤500000:=by omega
  have hkl:=zd h.blk
  have hml:=h.mlt
  have HKB:=z6 h.blk
  have HNM:=z6 hnm
  have HTS:=z6 hts
  have HROW:=z6 hrow
  have HK:=z6 hk
  have HOK:=z6 hok
  have HW:=z6 hw
  have HNN:=z6 hN
  have HSE:=z6 hse
  have H0:=z6 (LpM.start (P:=fun N' ks=>DnS N' names ks (s.take 0)) h (by simp[DnS]))
  clear h hnm hts hrow hAr hk hok hw hN hsl hse
  go_enter Tryz.func149,Tryz.ntmps149
  go_wp2_with fail
  go_loopg [11] s.length (fun m vi wr=>∃ (i:Nat) (a:Option Addr) (c:Nat) (N':List Nd) (y:List (Nat × Nat × Nat)) (ks:List Nat) (S':Nat→Prop),m=s.length - i∧vi = .int .i64 i∧i≤s.length∧Hid (LpM w kb mb nb N bx S (2 * Qx (s.take i)) (fun N' ks=>DnS N' names ks (s.take i)) i a c wr N' y ks S'))
  case atStart=>exact⟨0,none,0,N,[],[],S,by omega,rfl,by omega,H0⟩
  case round=>
    obtain⟨i,a,c,N',y,ks,S',rfl,rfl,hi,HI⟩:=hrel
    have hsr:=HI.out.kp.size
    have hbl:=zd HI.out.box
    have b0:wr.cell? ⟨w.heap.size,0,none⟩=some (.slice a i c):=z8 HI.out.box 0
    by_cases hlt:i<s.length
    · have hlt':(i:Int)<s.length:=by omega
      have hjv:i<vs.length:=by have:=HVL.out;omega
      obtain⟨g,hua,hcs,hgl⟩:=Jk HROW.out (by omega)
      subst hua
      have hgk:g≠kb:=zcp HKB.out (by decide) HROW.out rfl
      have hbg:wr.heap[g]? = w.heap[g]? := HI.out.kp.block g hgl (by simpa using hgk)
      obtain⟨t0,t1,t2⟩:=V1 s vs HVL.out i hlt
      have c0:wr.cell? ⟨g,i * 3,none⟩=some (.int .u8 s[i].ahead.toNat):=by rw[World.cell?_of_block (a:=⟨g,_,none⟩) hbg,hcs _ (by omega)];exact t0
      have c1 : wr.cell? ⟨g, i * 3 + 1, none⟩ = some (vs[i]'hjv) := by rw [World.cell?_of_block (a := ⟨g, _, none⟩) hbg, hcs _ (by omega)]; exact t1
      have c2:wr.cell? ⟨g,i * 3+2,none⟩=some (.int .u8 s[i].behind.toNat):=by rw[World.cell?_of_block (a:=⟨g,_,none⟩) hbg,hcs _ (by omega)];exact t2
      have htr:=zD.get HTS.out i hlt hjv
      have hst:=zj1 s i hlt
      have hsle:=zaw s (i+1)
      have HPC : Hid (∀ X, Below wr.heap.size wr X → Calls Tryz.prog 174 #[z9 kb, QN s[i] (vs[i]'hjv)] X (Mak kb mb nb N' (bx ++ y) S' (2 * wtT s[i]) (fun N2 n => DnT N2 names n s[i]) X)) := z6 (fun X hX => by
        have hu:=HI.out.upTo hX
        have hcn:=HI.out.cnt
        have hse:=HSE.out
        have hnn:=HNN.out
        have hww:=HW.out
        exact hT X kb mb nb N' (bx ++ y) S' names A s[i] (vs[i]'hjv) (HI.out.mkr.below hX) (HNM.out.up HKB.out hu) (Zk.kept (zcN HKB.out hu hA) _ _ htr) hA (Nat.le_trans (KI s i hlt) HK.out) (zbX HOK.out i hlt) (by omega) (by omega))
      have HGO : Hid (∀ X w1 N2 y2 n x S2 w5 va vc O, Below wr.heap.size wr X → x = ((bx ++ y) ++ y2).getD n (0, 0, 0) → n < N2.length → Mk w1 kb mb nb N2 ((bx ++ y) ++ y2) S2 → Goes N' N2 → N2.length ≤ N'.length + 2 * wtT s[i] → DnT N2 names n s[i] → KpM [kb] X.heap.size X w1 → GrS X S' S2 →
          w5.ownsRow (w.heap.size+1) 226 1 (.slice (some ⟨va,0,none⟩) (i+1) vc) (i+1) (ks.map (clV ((bx++y)++y2))++[zT x])→(w1.alloc O).grownBy w5 (Value.slice a i c).ownBlock→((Value.slice a i c).ownBlock=some va∨va=w1.heap.size+1) →
          Hid (LpM w kb mb nb N bx S (2 * Qx (s.take (i+1))) (fun N' ks=>DnS N' names ks (s.take (i+1))) (i+1) (some ⟨va,0,none⟩) vc (w5.setCell ⟨w.heap.size,0,none⟩ (.slice (some ⟨va,0,none⟩) (i+1) vc)) N2 (y++y2) (ks++[n]) S2)):=z6 (fun X w1 N2 y2 n x S2 w5 va vc O hX hx hn h1 hg hl hd hK hS hown hgrow hat=>by
        have hC:=HI.out.call hkl HKB.out hX h1 hg hl hK hS (DnS.goes hg _ HI.out.ok) (HI.out.lenLe h1)
        rw[List.append_assoc] at hx hown
        have hP:=LpM.put (P':=fun N' ks=>DnS N' names ks (s.take (i+1))) hC hkl hx hn (by rw[List.take_succ_eq_append_getElem hlt];exact hC.ok.snoc hd) hown hgrow (by
          rcases hat with e | e
          · exact .inl e.symm
          · exact .inr (by rw[e];simp[Value.ownBlock]))
        exact z6 (hP.wt (by omega)))
      have HC1:Hid (∀ X w1 N2 y2 S2,Below wr.heap.size wr X→Mk w1 kb mb nb N2 ((bx++y)++y2) S2→Goes N' N2→N2.length≤N'.length+2 * wtT s[i]→KpM [kb] X.heap.size X w1→GrS X S' S2→w1.heap[w.heap.size]? = some (zh (.slice a i c) 175)∧w1.ownsRow (w.heap.size+1) 226 1 (.slice a i c) i (ks.map (clV ((bx++y)++y2)))):=z6 (fun X w1 N2 y2 S2 hX h1 hg hl hK hS=>by
        have hC:=HI.out.call hkl HKB.out hX h1 hg hl hK hS (DnS.goes hg _ HI.out.ok) (HI.out.lenLe h1)
        have hr:=hC.row
        rw[← List.append_assoc] at hr
        exact⟨hC.box,hr⟩)
      obtain ⟨tt, xx, hvx⟩ : ∃ t x, vs[i]'hjv = .iface t x := by
        cases htt:s[i] with
        | mk a p b=>rw[htt] at htr;simp only[Zk] at htr;exact zp.oneCell htr
      rw[hvx] at c1
      simp only[hvx,QN] at HPC
      generalize hT2:s[i]=T at *
      have HBN:Hid (some w.heap.size≠(Value.slice a i c).ownBlock):=z6 (fun e=>by have:=(HI.out.row.lt _ e.symm).1;omega)
      have HTN:Hid (some wr.heap.size≠(Value.slice a i c).ownBlock):=z6 (fun e=>Nat.lt_irrefl _ (HI.out.row.lt _ e.symm).2)
      have HML:Hid (i+1≤maxLen):=by show _≤_;unfold maxLen;omega
      have hkr:kb≠wr.heap.size:=by omega
      generalize T.ahead=ah at *
      generalize T.behind=be at *
      clear htr t0 t1 t2 hvx hst hsle hcs hbg hgk
      go_wp2_with fail
      have z0:Hid (∀ w1:World,KpM [kb] ((wr.alloc (.cells #[.int .u8 ah.toNat,.iface tt xx,.int .u8 be.toNat] 249)).drew).heap.size ((wr.alloc (.cells #[.int .u8 ah.toNat,.iface tt xx,.int .u8 be.toNat] 249)).drew) w1→w1.heap[wr.heap.size]? = some (.cells #[.int .u8 ah.toNat,.iface tt xx,.int .u8 be.toNat] 249)):=z6 (fun w1 hK=>by
        rw[hK.block wr.heap.size (by show _<(wr.alloc _).heap.size;simp) (by simp;omega)]
        exact zk _ _)
      have HN:Hid (∀ (w1 w5:World) (O:Obj),(w1.alloc O).grownBy w5 (Value.slice a i c).ownBlock→w1.heap[w.heap.size]? = some (zh (.slice a i c) 175)→w5.heap[w.heap.size]? = some (zh (.slice a i c) 175)):=z6 (fun w1 w5 O hg hb=>by
        have hl:=zd hb
        rw[hg.block _ (by simp;omega) HBN.out,zm _ _ hl];exact hb)
      have hw1:wr.heap.size≠w.heap.size:=by omega
      have hw2:w.heap.size≠wr.heap.size:=by omega
      have HPV:Hid (∀ X,Below wr.heap.size wr X→Calls Tryz.prog 174 #[z9 kb,.agg #[.int .u8 ah.toNat,.iface tt xx,.int .u8 be.toNat]] X fun e w'=>∃ v,e = .returned v∧∃ N2 y2 n x S2,v=zT x∧x=((bx++y)++y2).getD n (0,0,0)∧n<N2.length∧Mk w' kb mb nb N2 ((bx++y)++y2) S2∧Goes N' N2∧N2.length≤N'.length+2 * wtT T∧DnT N2 names n T∧KpM [kb] X.heap.size X w'∧GrS X S' S2):=z6 (fun X hX=>(HPC.out X hX).mono (by
        rintro e w' ⟨N2,y2,n,x,S2,rfl,h⟩
        exact⟨_,rfl,N2,y2,n,x,S2,rfl,h⟩))
      go_region_law
        (first
          | (refine zcV (by rfl) 174 #[z9 kb,.agg #[.int .u8 ah.toNat,.iface tt xx,.int .u8 be.toNat]] (by go_simp) (HPV.out _ ((zc wr _).drew)) ?_;rintro _ w1 ⟨N2,y2,n,x,S2,rfl,hx,hn,h1,hg,hl,hd,hK,hS⟩;have HX:=z6 hx;have HC:=z6 (HC1.out _ w1 N2 y2 S2 ((zc wr _).drew) h1 hg hl hK hS);have s1:=z8 HC.out.1 0;have q0:=z8 (z0.out w1 hK) 0;have q1:=z8 (z0.out w1 hK) 1;have q2:=z8 (z0.out w1 hK) 2;have hlt1:=za HC.out.1;have hlt2:=za (z0.out w1 hK);have HM1:=z6 h1;have HG:=z6 hg;have HL:=z6 hl;have HD:=z6 hd;have HKK:=z6 hK;have HSS:=z6 hS;have HNN2:=z6 hn;clear hx h1 hg hl hd hK hS hn)
          | (refine step_append_lies _ (by rfl) _ _ _ (by rfl) (w.heap.size+1) 226 i0 _ 1 8 Tryz.underlying175 hi0 hz0 hz1 hz2 (by rfl) (by decide) _ _ _ (by rfl) (HC.out.2.alloc _) ⟨w1.heap.size,0,none⟩ 1 1 [zT x] (by rfl) (by rfl) (World.news_of_block (zk w1 _)) (by intro u hu;simp at hu;subst hu;rfl) (by decide) HML.out (by omega) (by simp;omega) (w1.heap.size+1) (by simp) ?_;intro g2 cap2 w6 hown1 hgrow hat hlt3;have t1:=VA hgrow s1 HBN.out;have t2:=VA hgrow q0 HTN.out;have t3:=VA hgrow q1 HTN.out;have t4:=VA hgrow q2 HTN.out;have f1:=zi (HN.out _ _ _ hgrow HC.out.1) 0;have hlt6:=za (HN.out _ _ _ hgrow HC.out.1);have HF:=HGO.out _ w1 N2 y2 n x S2 w6 g2 cap2 _ ((zc wr _).drew) HX.out HNN2.out HM1.out HG.out HL.out HD.out HKK.out HSS.out hown1 hgrow hat;clear hown1 hgrow hat))
      all_goals go_wp2_with fail
      all_goals
        go_roundg (s.length - (i+1))
        case measure=>omega
        case rel=>exact⟨i+1,_,_,_,_,_,_,rfl,by go_num,by omega,HF⟩
    · have hlt':¬ (i:Int)<s.length:=by omega
      have hie:i=s.length:=by omega
      have k0:wr.cell? ⟨kb,0,none⟩=some (z9 mb):=z8 HI.out.mkr.blk 0
      have hkl2:kb<wr.heap.size:=by omega
      have HCL:=z6 (HI.out.seq hml hkl (by have:=HI.out.cnt;have:=HNN.out;have:=zaw s i;have:=HSE.out;omega) (by omega))
      have HEND:Hid (∀ (w':World) (x:Nat × Nat × Nat) (S2:Nat→Prop),Mk w' kb mb nb (N'++[Nd.seq ks]) (bx++(y++[x])) S2→KpM [kb] w.heap.size w w'→GrS w S S2→Mak kb mb nb N bx S (2 * wtS s) (fun N' n=>∃ ks,N'[n]? = some (.seq ks)∧DnS N' names ks s) w (.returned (zT x)) w'):=z6 (fun w' x S2 h1 h2 h3=>by
        have hc:=HI.out.cnt
        have hsl:=zaw s i
        have hse:=HSE.out
        have hok:=HI.out.ok
        rw[hie,List.take_of_length_le (Nat.le_refl _)] at hok
        refine⟨N'++[Nd.seq ks],y++[x],N'.length,x,S2,rfl,?_,by simp,h1,HI.out.goes.trans (Goes.app _ _),by simp;omega,⟨ks,KO _ _,DnS.goes (Goes.app _ _) _ hok⟩,h2,h3⟩
        rw[← List.append_assoc,List.getD_eq_getElem?_getD,List.getElem?_append_right (by rw[HI.out.mkr.len];exact Nat.le_refl _),HI.out.mkr.len,Nat.sub_self];rfl)
      clear b0
      go_wp2_with fail
      refine HCL.out.mono ?_
      rintro _ w6 ⟨x,S2,rfl,h1,h2,h3⟩
      have HZ:=z6 (HEND.out w6 x S2 h1 h2 h3)
      clear h1 h2 h3
      go_wp2_with fail
      go_ret
      exact HZ.out
theorem zjM (x:Value) (w:World):(Instr.typeAssert (.iface 319 x) 247 319 true).run Tryz.prog w = .ok (.tuple #[x,.bool true]) w:=by kernel_rfl
theorem zjJ (x:Value) (w:World):(Instr.typeAssert (.iface 321 x) 247 319 true).run Tryz.prog w = .ok (.tuple #[.agg #[.string ⟨#[]⟩],.bool false]) w:=by kernel_rfl
theorem zjI (x:Value) (w:World):(Instr.typeAssert (.iface 321 x) 247 321 true).run Tryz.prog w = .ok (.tuple #[x,.bool true]) w:=by kernel_rfl
theorem zjH (x:Value) (w:World):(Instr.typeAssert (.iface 345 x) 247 319 true).run Tryz.prog w = .ok (.tuple #[.agg #[.string ⟨#[]⟩],.bool false]) w:=by kernel_rfl
theorem zjG (x:Value) (w:World):(Instr.typeAssert (.iface 345 x) 247 321 true).run Tryz.prog w = .ok (.tuple #[.agg #[.slice none 0 0],.bool false]) w:=by kernel_rfl
theorem zjL (x:Value) (w:World):(Instr.typeAssert (.iface 296 x) 247 319 true).run Tryz.prog w = .ok (.tuple #[.agg #[.string ⟨#[]⟩],.bool false]) w:=by kernel_rfl
theorem zjK (x:Value) (w:World):(Instr.typeAssert (.iface 296 x) 247 321 true).run Tryz.prog w = .ok (.tuple #[.agg #[.slice none 0 0],.bool false]) w:=by kernel_rfl
theorem zgn (k:Nat) (hC:∀ k',k'<k→qv k'):zaL k:=by
 intro w kb mb nb N bx S names A p v h hnm hp hA hk hok hN hw
 have hmf:∀ (fn:Fn) (first cap:Array Value) (w:World),(Instr.makeFunc fn first cap).run Tryz.prog w = .ok (.func fn first cap) w:=fun _ _ _ _=>rfl
 have HL:=z6 h.len
 cases p with
 | name b=>
  simp only[zp] at hp
  obtain⟨rfl,hbl⟩:=hp
  have HM:=z6 (fun O=>zgE (h.below (zc w O)) (by omega) names (hnm.below (zc w O)) b hbl)
  have a1:=Ui
  clear hk hw hC h hnm hN hok
  go_enter Tryz.func199,Tryz.ntmps199
  go_wp2_with fail
  refine (HM.out _).mono ?_
  rintro _ w1 hm
  have hmk:=Qg.mak (wt:=2 * wtP (.name b)+1) (P:=fun N' n=>DnP N' names n (.name b)) (zc w _) HL.out (by simp only[DnP];exact KO _ _) (by omega) hm
  obtain⟨x,S1,rfl,_,_,_⟩:=hm
  clear HM
  go_wp2_with fail
  go_ret
  exact hmk
 | lit b=>
  simp only[zp] at hp
  subst hp
  simp only[okP] at hok
  have HM:=z6 (fun O=>zfX (h.below (zc w O)) (by omega) b hok.2)
  have a1:=Uh
  have a2:=zjM
  clear hk hw hC h hnm hN hok
  go_enter Tryz.func199,Tryz.ntmps199
  go_wp2_with fail
  refine (HM.out _).mono ?_
  rintro _ w1 hm
  have hmk:=Qg.mak (wt:=2 * wtP (.lit b)+1) (P:=fun N' n=>DnP N' names n (.lit b)) (zc w _) HL.out (by simp only[DnP];exact KO _ _) (by omega) hm
  obtain⟨x,S1,rfl,_,_,_⟩:=hm
  clear HM
  go_wp2_with fail
  go_ret
  exact hmk
 | cls l=>
  simp only[zp] at hp
  obtain⟨u,rfl,hs⟩:=hp
  obtain⟨ua,uc,rfl⟩:=zl hs
  simp only[okP] at hok
  have HM:=z6 (fun O=>zer (h.below (zc w O)) (by omega) (.slice ua l.length uc) l (Zv hs (zc w O)) hok)
  have a1:=Ue
  have a2:=zjJ
  have a3:=zjI
  have HP:Hid (∀ (e:Ending) (w1:World) (O:Obj),Qg kb mb nb N bx S (.cls l) (w.alloc O) e w1→Mak kb mb nb N bx S (2 * wtP (.cls l)+1) (fun N' n=>DnP N' names n (.cls l)) w e w1):=z6 (fun e w1 O hm=>Qg.mak (zc w O) HL.out (by simp only[DnP];exact KO _ _) (by omega) hm)
  clear hk hw hC h hnm hN hok hs
  generalize l.length=n at *
  go_enter Tryz.func199,Tryz.ntmps199
  go_wp2_with fail
  refine (HM.out _).mono ?_
  rintro _ w1 hm
  have hmk:=HP.out _ _ _ hm
  obtain⟨x,S1,rfl,_,_,_⟩:=hm
  clear HM
  go_wp2_with fail
  go_ret
  exact hmk
 | any=>
  simp only[zp] at hp
  subst hp
  have HM:=z6 (ziM h (by omega))
  have a1:=Uc
  have a2:=zjH
  have a3:=zjG
  have a4:=Vn
  clear hk hw hC h hnm hN hok
  go_enter Tryz.func199,Tryz.ntmps199
  go_wp2_with fail
  refine HM.out.mono ?_
  rintro _ w1 hm
  have hmk:=Qg.mak (wt:=2 * wtP .any+1) (P:=fun N' n=>DnP N' names n .any) (Below.refl _ _) HL.out (by simp only[DnP];exact KO _ _) (by omega) hm
  obtain⟨x,S1,rfl,_,_,_⟩:=hm
  clear HM
  go_wp2_with fail
  go_ret
  exact hmk
 | group c=>
  simp only[zp] at hp
  obtain⟨u,us,rfl,hrow,hseqs⟩:=hp
  obtain⟨ua,uc,rfl⟩:=zl hrow.1
  have hdep:Qt c<k:=by simp only[Y6] at hk;omega
  simp only[wtP] at hw hN
  simp only[okP] at hok
  have HM:=z6 (fun O=>hC _ hdep (w.alloc O) kb mb nb N bx S names A c (.slice ua c.length uc) (h.below (zc w O)) (hnm.below (zc w O)) (Zt.kept (ZF (zc w O)) ⟨us,hrow,hseqs⟩) hA (Nat.le_refl _) hok (by omega) (by omega))
  have a1:=Uf
  have a2:=zjL
  have a3:=zjK
  have a4:=Vo
  simp only[wtP]
  generalize c.length=n at *
  clear hk hw hC h hnm hN hok hrow hseqs hdep hA
  go_enter Tryz.func199,Tryz.ntmps199
  go_wp2_with fail
  refine (HM.out _).mono ?_
  rintro _ w1 ⟨N1,y,n,x,S1,rfl,hx,hn,h1,hg,hl,hd,hK,hS⟩
  have HX:=z6 hx
  clear HM hx
  go_wp2_with fail
  go_ret
  exact⟨N1,y,n,x,S1,rfl,HX.out,hn,h1,hg,by omega,hd,hK.alloc,(GrS.refl _ _).below hS (zc _ _)⟩
theorem zgm (k:Nat) (hT:zaM k):qv k:=by
  intro w kb mb nb N bx S names A s u h hnm hs hA hk hok hN hw
  obtain⟨vs,⟨hrow,hAr⟩,hts⟩:=hs
  obtain⟨ua,uc,rfl⟩:=zl hrow
  have hmf:∀ (fn:Fn) (first cap:Array Value) (w:World),(Instr.makeFunc fn first cap).run Tryz.prog w = .ok (.func fn first cap) w:=fun _ _ _ _=>rfl
  have HVL:Hid (s.length=vs.length):=zA.length hts
  obtain⟨i0,hi0,hz0,hz1,hz2⟩:=info_parts Tryz.infoExprF
  have hs0:s≠[]:=by
    rintro rfl
    simp only[Thk.wtC] at hw
    omega
  have hsl:=q9 s
  have hse:=zcZ s hs0
  have hn1:s.length≤500000:=by omega
  have hpos : 0<s.length:=List.length_pos_iff.2 hs0
  have hkl:=zd h.blk
  have hml:=h.mlt
  have HKB:=z6 h.blk
  have HNM:=z6 hnm
  have HTS:=z6 hts
  have HROW:=z6 hrow
  have HK:=z6 hk
  have HOK:=z6 hok
  have HW:=z6 hw
  have HNN:=z6 hN
  have HSE:=z6 hse
  have H0:=z6 (LpM.start (P:=fun N' ks=>DnC N' names ks (s.take 0)) h (by simp[DnC]))
  clear h hnm hts hrow hAr hk hok hw hN hsl hse hs0
  go_enter Tryz.func119,Tryz.ntmps119
  go_wp2_with fail
  go_loopg [10] s.length (fun m vi wr=>∃ (i:Nat) (a:Option Addr) (c:Nat) (N':List Nd) (y:List (Nat × Nat × Nat)) (ks:List Nat) (S':Nat→Prop),m=s.length - i∧vi = .int .i64 i∧i≤s.length∧Hid (LpM w kb mb nb N bx S (2 * (Qa (s.take i) - i)) (fun N' ks=>DnC N' names ks (s.take i)) i a c wr N' y ks S'))
  case atStart=>exact⟨0,none,0,N,[],[],S,by omega,rfl,by omega,H0⟩
  case round=>
    obtain⟨i,a,c,N',y,ks,S',rfl,rfl,hi,HI⟩:=hrel
    have hsr:=HI.out.kp.size
    have hbl:=zd HI.out.box
    have b0:wr.cell? ⟨w.heap.size,0,none⟩=some (.slice a i c):=z8 HI.out.box 0
    by_cases hlt:i<s.length
    · have hlt':(i:Int)<s.length:=by omega
      have hjv:i<vs.length:=by have:=HVL.out;omega
      obtain⟨g,hua,hcs,hgl⟩:=Jk HROW.out (by omega)
      subst hua
      have hgk:g≠kb:=zcp HKB.out (by decide) HROW.out rfl
      have hbg:wr.heap[g]? = w.heap[g]? := HI.out.kp.block g hgl (by simpa using hgk)
      have c0 : wr.cell? ⟨g, i, none⟩ = some (vs[i]'hjv) := by rw [World.cell?_of_block (a := ⟨g, _, none⟩) hbg, hcs _ (by omega)]; exact List.getElem?_eq_getElem hjv
      have htr:=zA.get HTS.out i hlt hjv
      have hst:=zj0 s i hlt
      have hsle:=zav s (i+1)
      have hlen1:i≤Qa (s.take i):=by have:=q9 (s.take i);rw[List.length_take] at this;omega
      have HPC : Hid (∀ X, Below wr.heap.size wr X → Calls Tryz.prog 149 #[z9 kb, vs[i]'hjv] X (Mak kb mb nb N' (bx ++ y) S' (2 * wtS s[i]) (fun N2 n => ∃ ks, N2[n]? = some (.seq ks) ∧ DnS N2 names ks s[i]) X)) := z6 (fun X hX => by
        have hu:=HI.out.upTo hX
        have hcn:=HI.out.cnt
        have hse:=HSE.out
        have hnn:=HNN.out
        have hww:=HW.out
        exact hT X kb mb nb N' (bx ++ y) S' names A s[i] (vs[i]'hjv) (HI.out.mkr.below hX) (HNM.out.up HKB.out hu) (QX.kept (zcN HKB.out hu hA) htr) hA (Nat.le_trans (KH s i hlt) HK.out) (zbW HOK.out i hlt) (by omega) (by omega))
      have HGO : Hid (∀ X w1 N2 y2 n x S2 w5 va vc O, Below wr.heap.size wr X → x = ((bx ++ y) ++ y2).getD n (0, 0, 0) → n < N2.length → Mk w1 kb mb nb N2 ((bx ++ y) ++ y2) S2 → Goes N' N2 → N2.length ≤ N'.length + 2 * wtS s[i] → (∃ ks, N2[n]? = some (.seq ks) ∧ DnS N2 names ks s[i]) → KpM [kb] X.heap.size X w1 → GrS X S' S2 →
          w5.ownsRow (w.heap.size+1) 226 1 (.slice (some ⟨va,0,none⟩) (i+1) vc) (i+1) (ks.map (clV ((bx++y)++y2))++[zT x])→(w1.alloc O).grownBy w5 (Value.slice a i c).ownBlock→((Value.slice a i c).ownBlock=some va∨va=w1.heap.size+1) →
          Hid (LpM w kb mb nb N bx S (2 * (Qa (s.take (i+1)) - (i+1))) (fun N' ks=>DnC N' names ks (s.take (i+1))) (i+1) (some ⟨va,0,none⟩) vc (w5.setCell ⟨w.heap.size,0,none⟩ (.slice (some ⟨va,0,none⟩) (i+1) vc)) N2 (y++y2) (ks++[n]) S2)):=z6 (fun X w1 N2 y2 n x S2 w5 va vc O hX hx hn h1 hg hl hd hK hS hown hgrow hat=>by
        have hC:=HI.out.call hkl HKB.out hX h1 hg hl hK hS (DnC.goes hg _ HI.out.ok) (HI.out.lenLe h1)
        rw[List.append_assoc] at hx hown
        obtain⟨kq,hd1,hd2⟩:=hd
        have hP:=LpM.put (P':=fun N' ks=>DnC N' names ks (s.take (i+1))) hC hkl hx hn (by rw[List.take_succ_eq_append_getElem hlt];exact hC.ok.snoc hd1 hd2) hown hgrow (by
          rcases hat with e | e
          · exact .inl e.symm
          · exact .inr (by rw[e];simp[Value.ownBlock]))
        exact z6 (hP.wt (by omega)))
      have HC1:Hid (∀ X w1 N2 y2 S2,Below wr.heap.size wr X→Mk w1 kb mb nb N2 ((bx++y)++y2) S2→Goes N' N2→N2.length≤N'.length+2 * wtS s[i]→KpM [kb] X.heap.size X w1→GrS X S' S2→w1.heap[w.heap.size]? = some (zh (.slice a i c) 175)∧w1.ownsRow (w.heap.size+1) 226 1 (.slice a i c) i (ks.map (clV ((bx++y)++y2)))):=z6 (fun X w1 N2 y2 S2 hX h1 hg hl hK hS=>by
        have hC:=HI.out.call hkl HKB.out hX h1 hg hl hK hS (DnC.goes hg _ HI.out.ok) (HI.out.lenLe h1)
        have hr:=hC.row
        rw[← List.append_assoc] at hr
        exact⟨hC.box,hr⟩)
      obtain ⟨tt, xx, hvx⟩ : ∃ t x, vs[i]'hjv = .slice t s[i].length x := by
        obtain⟨_,hr,_⟩:=htr
        exact zl hr.1
      rw[hvx] at c0
      rw[hvx] at HPC
      have HBN:Hid (some w.heap.size≠(Value.slice a i c).ownBlock):=z6 (fun e=>by have:=(HI.out.row.lt _ e.symm).1;omega)
      have HML:Hid (i+1≤maxLen):=by show _≤_;unfold maxLen;omega
      have hkr:kb≠wr.heap.size:=by omega
      generalize s[i].length=cl at *
      clear htr hvx hst hsle hcs hbg hgk
      go_wp2_with fail
      have HN:Hid (∀ (w1 w5:World) (O:Obj),(w1.alloc O).grownBy w5 (Value.slice a i c).ownBlock→w1.heap[w.heap.size]? = some (zh (.slice a i c) 175)→w5.heap[w.heap.size]? = some (zh (.slice a i c) 175)):=z6 (fun w1 w5 O hg hb=>by
        have hl:=zd hb
        rw[hg.block _ (by simp;omega) HBN.out,zm _ _ hl];exact hb)
      have HPV:Hid (∀ X,Below wr.heap.size wr X→Calls Tryz.prog 149 #[z9 kb,.slice tt cl xx] X fun e w'=>∃ v,e = .returned v∧∃ N2 y2 n x S2,v=zT x∧x=((bx++y)++y2).getD n (0,0,0)∧n<N2.length∧Mk w' kb mb nb N2 ((bx++y)++y2) S2∧Goes N' N2∧N2.length≤N'.length+2 * wtS s[i]∧(∃ ks,N2[n]? = some (.seq ks)∧DnS N2 names ks s[i])∧KpM [kb] X.heap.size X w'∧GrS X S' S2):=z6 (fun X hX=>(HPC.out X hX).mono (by
        rintro e w' ⟨N2,y2,n,x,S2,rfl,h⟩
        exact⟨_,rfl,N2,y2,n,x,S2,rfl,h⟩))
      go_region_law
        (first
          | (refine zcV (by rfl) 149 #[z9 kb,.slice tt cl xx] (by go_simp) (HPV.out _ ((Below.refl wr.heap.size wr).drew)) ?_;rintro _ w1 ⟨N2,y2,n,x,S2,rfl,hx,hn,h1,hg,hl,hd,hK,hS⟩;have HX:=z6 hx;have HC:=z6 (HC1.out _ w1 N2 y2 S2 ((Below.refl wr.heap.size wr).drew) h1 hg hl hK hS);have s1:=z8 HC.out.1 0;have hlt1:=za HC.out.1;have HM1:=z6 h1;have HG:=z6 hg;have HL:=z6 hl;have HD:=z6 hd;have HKK:=z6 hK;have HSS:=z6 hS;have HNN2:=z6 hn;clear hx h1 hg hl hd hK hS hn)
          | (refine step_append_lies _ (by rfl) _ _ _ (by rfl) (w.heap.size+1) 226 i0 _ 1 8 Tryz.underlying175 hi0 hz0 hz1 hz2 (by rfl) (by decide) _ _ _ (by rfl) (HC.out.2.alloc _) ⟨w1.heap.size,0,none⟩ 1 1 [zT x] (by rfl) (by rfl) (World.news_of_block (zk w1 _)) (by intro u hu;simp at hu;subst hu;rfl) (by decide) HML.out (by omega) (by simp;omega) (w1.heap.size+1) (by simp) ?_;intro g2 cap2 w6 hown1 hgrow hat hlt3;have t1:=VA hgrow s1 HBN.out;have f1:=zi (HN.out _ _ _ hgrow HC.out.1) 0;have hlt6:=za (HN.out _ _ _ hgrow HC.out.1);have HF:=HGO.out _ w1 N2 y2 n x S2 w6 g2 cap2 _ ((Below.refl wr.heap.size wr).drew) HX.out HNN2.out HM1.out HG.out HL.out HD.out HKK.out HSS.out hown1 hgrow hat;clear hown1 hgrow hat))
      all_goals go_wp2_with fail
      all_goals
        go_roundg (s.length - (i+1))
        case measure=>omega
        case rel=>exact⟨i+1,_,_,_,_,_,_,rfl,by go_num,by omega,HF⟩
    · have hlt':¬ (i:Int)<s.length:=by omega
      have hie:i=s.length:=by omega
      have HCL:=z6 (HI.out.choice hml hkl (by have:=HI.out.cnt;have:=HNN.out;have:=zav s i;have:=HSE.out;omega) (by omega))
      have HEND:Hid (∀ (w':World) (x:Nat × Nat × Nat) (S2:Nat→Prop),Mk w' kb mb nb (N'++[Nd.choice ks]) (bx++(y++[x])) S2→KpM [kb] w.heap.size w w'→GrS w S S2→Mak kb mb nb N bx S (2 * wtC s) (fun N' n=>DnP N' names n (.group s)) w (.returned (zT x)) w'):=z6 (fun w' x S2 h1 h2 h3=>by
        have hc:=HI.out.cnt
        have hsl:=zav s i
        have hlen1:i≤Qa (s.take i):=by have:=q9 (s.take i);rw[List.length_take] at this;omega
        have hse:=HSE.out
        have hok:=HI.out.ok
        rw[hie,List.take_of_length_le (Nat.le_refl _)] at hok
        refine⟨N'++[Nd.choice ks],y++[x],N'.length,x,S2,rfl,?_,by simp,h1,HI.out.goes.trans (Goes.app _ _),by simp;omega,?_,h2,h3⟩
        · rw[← List.append_assoc,List.getD_eq_getElem?_getD,List.getElem?_append_right (by rw[HI.out.mkr.len];exact Nat.le_refl _),HI.out.mkr.len,Nat.sub_self];rfl
        · simp only[DnP]
          exact⟨ks,KO _ _,DnC.goes (Goes.app _ _) _ hok⟩)
      clear b0
      go_wp2_with fail
      refine HCL.out.mono ?_
      rintro _ w6 ⟨x,S2,rfl,h1,h2,h3⟩
      have HZ:=z6 (HEND.out w6 x S2 h1 h2 h3)
      clear h1 h2 h3
      go_wp2_with fail
      go_ret
      exact HZ.out
theorem zgo (k:Nat):qv k:=by
 induction k using Nat.strongRecOn with
 | ind k ih=>exact zgm k (ziE k (zj8 k (zfx k (zgn k ih))))
theorem zek (w:World) (kb mb nb:Nat) (N:List Nd) (bx:List (Nat × Nat × Nat)) (S:Nat→Prop) (names:List z7) (A:Nat→Prop) (c:List (List Term)) (u:Value) (h:Mk w kb mb nb N bx S) (hm:Zd w nb names) (hc:Zt w A c u) (hA:∀ g,A g→g≠kb) (hok:okC c) (hN:N.length+2 * wtC c≤100000000) (hw:wtC c≤500000) :
  Calls Tryz.prog 119 #[z9 kb,u] w (Mak kb mb nb N bx S (2 * wtC c) (fun N' n=>DnP N' names n (.group c)) w):=
 zgo (Qt c) w kb mb nb N bx S names A c u h hm hc hA (Nat.le_refl _) hok hN hw
def Jc:List ze→Nat
 | []=>0
 | r::g=>wtC r.choice+Jc g
theorem zau:∀ (a b:List ze),Jc (a++b)=Jc a+Jc b
 | [],b=>by simp[Jc]
 | r::a,b=>by have:=zau a b;simp only[List.cons_append,Jc];omega
theorem zcX (g:List ze) (i:Nat) (h:i<g.length):Jc (g.take (i+1))=Jc (g.take i)+wtC g[i].choice:=by
 rw[List.take_succ_eq_append_getElem h,zau];simp[Jc]
theorem zcW:∀ (g:List ze),(∀ r ∈ g,wtC r.choice≤500000)→Jc g≤g.length * 500000
 | [],_=>by simp[Jc]
 | r::g,h=>by
  have h1:=zcW g (fun x hx=>h x (List.mem_cons_of_mem _ hx))
  have h2:=h r (List.mem_cons_self ..)
  simp only[Jc,List.length_cons];omega
theorem KpM.belowOf {rbs:List Nat} {B:Nat} {w w':World} (h:KpM rbs w.heap.size w w') (hr:∀ b ∈ rbs,B≤b) (hB:B≤w.heap.size):Below B w w':=⟨h.os,h.tape,h.output,h.size,fun k hk=>h.block k (by omega) (fun hb=>by have:=hr k hb;omega)⟩
structure MkL (w:World) (kb mb nb rb:Nat) (g:List ze) (names:List z7) (i:Nat) (wr:World) (N:List Nd) (bx:List (Nat × Nat × Nat)) (S:Nat→Prop) (rs:List Nat):Prop where
 mkr:Mk wr kb mb nb N bx S
 cnt:N.length≤2 * Jc (g.take i)
 len:rs.length=i
 dn:∀ j (h:j<rs.length) (h2:j<g.length),DnP N names rs[j] (.group g[j].choice)
 lt:∀ k ∈ rs,k<N.length
 mat:wr.heap[mb]? = some (Zz (.slice (some ⟨rb,0,none⟩) g.length g.length) ⟨#[]⟩ (.map none) .nilIface)
 row:∃ cur:Array Value,wr.heap[rb]? = some (.cells cur 226 (0,0))∧cur.size=g.length∧∀ j (h:j<rs.length),cur[j]? = some (clV bx rs[j])
 nr:¬ S rb
 nm:¬ S mb
 bel:Below w.heap.size w wr
 gr:∀ b,S b→w.heap.size≤b∨QA w b
theorem MkL.next {w wr X w1:World} {kb mb nb rb:Nat} {g:List ze} {names:List z7} {i:Nat} {N N2:List Nd} {bx y:List (Nat × Nat × Nat)} {S S2:Nat→Prop} {rs:List Nat} {n:Nat} {x:Nat × Nat × Nat} (h:MkL w kb mb nb rb g names i wr N bx S rs) (hi:i<g.length) (hkb:w.heap.size≤kb) (hmb:w.heap.size≤mb) (hrb:w.heap.size≤rb) (hne:rb≠mb) (hkr:kb≠rb) (hkm:kb≠mb)
  (hX:Below wr.heap.size wr X) (hx:x=(bx++y).getD n (0,0,0)) (hn:n<N2.length) (h1:Mk w1 kb mb nb N2 (bx++y) S2) (hg:Goes N N2) (hl:N2.length≤N.length+2 * wtC g[i].choice) (hd:DnP N2 names n (.group g[i].choice)) (hK:KpM [kb] X.heap.size X w1) (hS:GrS X S S2) :
  MkL w kb mb nb rb g names (i+1) (w1.setCell ⟨rb,i,none⟩ (zT x)) N2 (bx++y) S2 (rs++[n]):=by
 have hXs:=hX.size
 have hKs:=hK.size
 have hlen:=h.len
 have hws:=h.bel.size
 obtain⟨cur,hcb,hcs,hcc⟩:=h.row
 have hrl:=zd hcb
 have hml:=zd h.mat
 have hkl:=zd h.mkr.blk
 have hr1:w1.heap[rb]? = some (.cells cur 226 (0,0)):=by rw[hK.block rb (by omega) (by simp;omega),hX.block rb hrl];exact hcb
 have hm1:w1.heap[mb]? = some (Zz (.slice (some ⟨rb,0,none⟩) g.length g.length) ⟨#[]⟩ (.map none) .nilIface):=by rw[hK.block mb (by omega) (by simp;omega),hX.block mb hml];exact h.mat
 have hnl:N.length≤N2.length:=by have e1:=h.mkr.len;have e2:=h1.len;rw[List.length_append] at e2;omega
 have hnr:¬ S2 rb:=by
  intro hs
  rcases hS _ hs with h' | h' | ⟨cu,h'⟩
  ·exact h.nr h'
  ·omega
  ·rw[hX.block rb hrl,hcb] at h';simp at h'
 have hnm:¬ S2 mb:=by
  intro hs
  rcases hS _ hs with h' | h' | ⟨cu,h'⟩
  ·exact h.nm h'
  ·omega
  ·rw[hX.block mb hml,h.mat] at h';simp at h'
 have hsz:(w1.setCell ⟨rb,i,none⟩ (zT x)).heap.size=w1.heap.size:=by simp[World.setCell]
 refine⟨h1.same (by omega) (fun b hb=>Below.heap_setCell _ _ _ _ (fun e=>by subst e;exact hnr hb)) (Below.heap_setCell _ _ _ _ (by simpa using hkr)),?_,by simp[hlen],?_,?_,?_,?_,hnr,hnm,?_,?_⟩
 ·have:=h.cnt;rw[zcX g i hi];omega
 ·intro j hj h2
  by_cases hji:j<rs.length
  ·rw[List.getElem_append_left hji]
   exact DnP.goes hg _ (h.dn j hji h2)
  ·have:j=i:=by simp at hj;omega
   subst this
   rw[List.getElem_append_right (by omega)]
   simpa using hd
 ·intro k hk
  rcases List.mem_append.1 hk with hk | hk
  ·exact Nat.lt_of_lt_of_le (h.lt k hk) hnl
  ·simp at hk;subst hk;exact hn
 ·rw[Below.heap_setCell _ _ _ _ (by simpa using fun e:mb=rb=>hne e.symm)];exact hm1
 ·refine⟨cur.setIfInBounds i (zT x),by rw[zo hr1],by simpa using hcs,?_⟩
  intro j hj
  by_cases hji:j<rs.length
  ·rw[List.getElem_append_left hji,Array.getElem?_setIfInBounds_ne (by omega),hcc j hji,Y5 (by rw[h.mkr.len];exact h.lt _ (List.getElem_mem hji))]
  ·have:j=i:=by simp at hj;omega
   subst this
   rw[List.getElem_append_right (by omega),Array.getElem?_setIfInBounds_self_of_lt (by omega)]
   simp[clV,hx,hlen]
 ·refine (h.bel.trans (hX.mono hws)).trans ((hK.belowOf (B:=w.heap.size) (by simpa using hkb) (by omega)).trans ?_)
  exact (Below.refl _ _).setCell (p:=⟨rb,i,none⟩) hrb _
 ·intro b hb
  rcases hS _ hb with h' | h' | ⟨cu,h'⟩
  ·exact h.gr b h'
  ·exact .inl (by omega)
  ·rcases Nat.lt_or_ge b w.heap.size with hl | hl
   ·exact .inr ⟨cu,by rw[← h.bel.block b hl,← hX.block b (by omega)];exact h'⟩
   ·exact .inl hl
structure Jv (w:World) (mb:Nat) (N:List Nd) (bx:List (Nat × Nat × Nat)) (rules:List Nat) (vr:Value) (S:Nat→Prop):Prop where
 nm:¬ S mb
 lt:∀ b,S b→b<w.heap.size
 mlt:mb<w.heap.size
 mde:∀ w':World,w.heap.size≤w'.heap.size→(∀ b,S b→w'.heap[b]? = w.heap[b]?)→(∃ sv tv nv,w'.heap[mb]? = some (.cells #[vr,sv,tv,nv] 177 (0,0)))→Mde w' mb N bx rules vr
theorem MkL.mat' {w wr:World} {kb mb nb rb:Nat} {g:List ze} {names:List z7} {N:List Nd} {bx:List (Nat × Nat × Nat)} {S:Nat→Prop} {rs:List Nat} (h:MkL w kb mb nb rb g names g.length wr N bx S rs) (hne:rb≠mb):Jv wr mb N bx rs (.slice (some ⟨rb,0,none⟩) g.length g.length) (fun b=>S b∨b=rb):=by
 obtain⟨cur,hcb,hcs,hcc⟩:=h.row
 refine⟨?_,?_,zd h.mat,?_⟩
 ·rintro (h' | h')
  ·exact h.nm h'
  ·exact hne h'.symm
 ·rintro b (h' | rfl)
  ·exact h.mkr.lt b h'
  ·exact zd hcb
 ·intro w' hs hg hm
  have hc:=h.mkr.clo w' hs (fun b hb=>hg b (.inl hb))
  refine⟨fun n d hn=>?_,?_,hm⟩
  ·obtain⟨_,iv,e1,e2,e3,e4⟩:=hc n d hn
   exact⟨iv,e1,e2,e3,e4⟩
  ·refine⟨rb,g.length,by rw[h.len],Nat.lt_of_lt_of_le (zd hcb) hs,hne,fun j hj=>?_⟩
   simp only[World.cell?]
   rw[hg rb (.inr rfl),hcb]
   exact hcc j hj
end Go.Proofs.YtiganlkabilblaaGreatDoor
namespace Go.Proofs.YtiganlkabilblaaGreatDoor
open Thk
def jS:List z7→z7
 | []=>[]
 | [s]=>s
 | s::ss=>s++(32::jS ss)
def jSq:List z7→z7
 | []=>[40,41]
 | ss=>jS ss
def jC:List (List z7)→z7
 | []=>[]
 | [s]=>jSq s
 | s::c=>jSq s++([32,47,32]++jC c)
theorem zp3:∀ s:List Term,prS s=jS (s.map prT)
 | []=>by simp[prS,jS]
 | [t]=>by simp[prS,jS]
 | t::t2::s=>by
  have:=zp3 (t2::s)
  simp only[prS,List.map_cons,jS] at *
  rw[this]
theorem znW:∀ s:List Term,znd s=jSq (s.map prT)
 | []=>by simp[znd,jSq]
 | t::s=>by
  have:=zp3 (t::s)
  simp only[znd,List.map_cons,jSq] at *
  exact this
theorem zp0:∀ c:List (List Term),prC c=jC (c.map (fun s=>s.map prT))
 | []=>by simp[prC,jC]
 | [s]=>by simp[prC,jC,znW]
 | s::s2::c=>by
  have:=zp0 (s2::c)
  simp only[prC,List.map_cons,jC] at *
  rw[this,znW]
end Go.Proofs.YtiganlkabilblaaGreatDoor
namespace Go.Proofs.YtiganlkabilblaaGreatDoor
open Go.RowKit
def prR (r:Thk.ze):Thk.z7:=((r.name++[32,60,45,32])++Thk.prC r.choice)++[10]
def prG (g:List Thk.ze):Thk.z7:=g.flatMap prR
def GOk (g:List Thk.ze):Prop:=∀ r ∈ g,Thk.wtC r.choice≤500000∧r.name.length≤20
theorem Zo.gok {l:List UInt8} {g:List Thk.ze} {E:List Bool} (h:Zo l (.ok (g,E))):GOk g:=by
 cases h with
 | ok h _=>
  cases h with
  | read hl hg=>exact Thk.zf6 hg hl
theorem zp2 {r:Thk.ze} (h:Thk.wtC r.choice≤500000∧r.name.length≤20):(prR r).length≤500030∧(Thk.prC r.choice).length≤500000:=by
 have:=Thk.znJ r.choice
 unfold prR
 simp only[List.length_append,List.length_cons,List.length_nil]
 omega
theorem zqb {g:List Thk.ze} (h:GOk g):(prG g).length≤500030 * g.length:=by
 unfold prG
 induction g with
 | nil=>simp
 | cons r g ih=>
  have h1:=(zp2 (h r (by simp))).1
  have h2:=ih (fun x hx=>h x (by simp[hx]))
  rw[List.flatMap_cons,List.length_append,List.length_cons]
  omega
theorem zqd {g:List Thk.ze} (h:GOk g) (hl:g.length≤20) (i:Nat):(prG (g.take i)).length≤10000600:=by
 have h1:=zqb (g:=g.take i) (fun r hr=>h r (List.mem_of_mem_take hr))
 have h2:(g.take i).length≤20:=by rw[List.length_take];omega
 have : 500030 * (g.take i).length≤500030 * 20:=Nat.mul_le_mul_left _ h2
 omega
theorem zqc {g:List Thk.ze} {i:Nat} (h:i<g.length):prG (g.take (i+1))=prG (g.take i)++prR g[i]:=by
 unfold prG
 rw[List.take_succ_eq_append_getElem h,List.flatMap_append]
 simp
theorem znD (a b:Thk.z7) (h:a.length+b.length≤200000000) (W:World):(Op.stringOp .add ⟨a.toArray⟩ ⟨b.toArray⟩).run Tryz.prog W = .ok (.string ⟨(a++b).toArray⟩) W:=by
 rw[run_string_add_sum W _ _ (by show a.toArray.size+b.toArray.size≤_;simp;omega)]
 exact congrArg (fun b=>Result.ok (Value.string b) W) (zpx a b)
end Go.Proofs.YtiganlkabilblaaGreatDoor
namespace Go.Proofs.YtiganlkabilblaaGreatDoor
open Go.RowKit Thk
attribute [local go_sem ↓] Go.wp_at_zero Go.wp_at_succ
theorem zgq (n:Nat) (hn:n≤20) (w:World):∃ cur:Array Value,cur.size=n∧(Instr.makeSlice 175 (.int .i64 n) (.int .i64 n)).run Tryz.prog w = .ok (.slice (some ⟨w.heap.size,0,none⟩) n n) (w.alloc (.cells cur 226)):=by
 obtain⟨i0,hi,hz0,hz1,hz2⟩:=info_parts Tryz.infoExprF
 refine⟨madeCells (Value.nilFunc).cells (((n:Nat):Int).toNat * i0.size),?_,?_⟩
 ·rw[size_madeCells,hz1];simp
 ·have h:=run_make (P:=Tryz.prog) w 175 226 i0 _ Tryz.underlying175 hi hz0 .i64 .i64 (n:Int) (n:Int) (by omega) (by omega) (by rw[hz2];omega) (by omega)
  simpa using h
theorem qU {w:World} {a:Addr} {v u:Value} {b o:Nat} (h:w.cell? a=some v) (hne:a.block≠b):(w.setCell ⟨b,o,none⟩ u).cell? a=some v:=by
 rw[World.cell?_of_block (a:=a) (Below.heap_setCell w ⟨b,o,none⟩ u a.block hne)];exact h
def zaJ (g:List ze) (w:World) (e:Ending) (w':World):Prop:=∃ mb N bx rs vr S,e = .returned (z9 mb)∧Jv w' mb N bx rs vr S∧w'.heap[mb]? = some (Zz vr ⟨#[]⟩ (.map none) .nilIface)∧DnR N rs g∧Below w.heap.size w w'∧w.heap.size≤mb∧∀ b,S b→w.heap.size≤b∨QA w b
theorem zgA {w:World} {nb:Nat} {g:List ze} {names:List z7} {cur:Array Value} (hc:cur.size=g.length):MkL w (w.heap.size+1+1) (w.heap.size+1) nb w.heap.size g names 0 (((w.alloc (.cells cur 226 (0,0))).alloc (Zz (.slice (some ⟨w.heap.size,0,none⟩) g.length g.length) ⟨#[]⟩ (.map none) .nilIface)).alloc (Qd (w.heap.size+1) (.map (some nb)) 0)) [] [] (fun _=>False) []:=by
 refine⟨⟨Vl w _ _ _,by simp,rfl,fun h=>h,fun _ h=>h.elim,fun _ _ _ n d hn=>by simp at hn⟩,by simp,rfl,by simp,by simp,Vk w _ _ _,⟨cur,Vj w _ _ _,hc,by simp⟩,fun h=>h,fun h=>h,Qs w _ _ _,fun _ h=>h.elim⟩
theorem zgp (w:World) (A:Nat→Prop) (g:List ze) (ga:Addr) (gc nb:Nat) (h:Zj w A g (.slice (some ga) g.length gc)) (hm:Zd w nb (zg g)) (hgok:GOk g) (hok:∀ r ∈ g,okC r.choice) (hl:g.length≤20) :
  Calls Tryz.prog 82 #[.slice (some ga) g.length gc,.map (some nb)] w (zaJ g w):=by
 obtain⟨cur,hcs,hmk⟩:=zgq g.length hl w
 have HG:=z6 h
 have HM:=z6 hm
 have HGOK:=z6 hgok
 have HOK:=z6 hok
 have HSR:=z6 (zcW g (fun r hr=>(hgok r hr).1))
 have H0:=z6 (zgA (w:=w) (nb:=nb) (g:=g) (names:=zg g) hcs)
 clear h hm hgok hok hcs
 go_enter Tryz.func82,Tryz.ntmps82
 go_wp2_with fail
 go_loopg [17] g.length (fun m vi wr=>∃ (i:Nat) (N:List Nd) (bx:List (Nat × Nat × Nat)) (rs:List Nat) (S:Nat→Prop),m=g.length - i∧vi = .int .i64 i∧i≤g.length∧Hid (MkL w (w.heap.size+1+1) (w.heap.size+1) nb w.heap.size g (zg g) i wr N bx S rs))
 case atStart=>exact⟨0,[],[],[],fun _=>False,by omega,rfl,by omega,H0⟩
 case round=>
  obtain⟨i,N,bx,rs,S,rfl,rfl,hi,HI⟩:=hrel
  have hsr:=HI.out.bel.size
  by_cases hlt:i<g.length
  ·have hlt':(i:Int)<g.length:=by omega
   obtain⟨gb,ca,cc,rfl,hgbl,_,c0,c1,hch,hnl⟩:=HG.out.at i hlt
   have hgi:=HGOK.out g[i] (List.getElem_mem hlt)
   have hoi:=HOK.out g[i] (List.getElem_mem hlt)
   have c0':wr.cell? ⟨gb,i * 2,none⟩=some (.string ⟨g[i].name.toArray⟩):=by rw[HI.out.bel.cell (p:=⟨gb,_,none⟩) hgbl];exact c0
   have c1':wr.cell? ⟨gb,i * 2+1,none⟩=some (.slice ca g[i].choice.length cc):=by rw[HI.out.bel.cell (p:=⟨gb,_,none⟩) hgbl];exact c1
   have k0:wr.cell? ⟨w.heap.size+1+1,0,none⟩=some (z9 (w.heap.size+1)):=z8 HI.out.mkr.blk 0
   have m0:wr.cell? ⟨w.heap.size+1,0,none⟩=some (.slice (some ⟨w.heap.size,0,none⟩) g.length g.length):=z8 HI.out.mat 0
   have hkl:=za HI.out.mkr.blk
   have HCH:=z6 hch
   have HPC:Hid (∀ X,Below wr.heap.size wr X→Calls Tryz.prog 119 #[z9 (w.heap.size+1+1),.slice ca g[i].choice.length cc] X (Mak (w.heap.size+1+1) (w.heap.size+1) nb N bx S (2 * wtC g[i].choice) (fun N' n=>DnP N' (zg g) n (.group g[i].choice)) X)):=z6 (fun X hX=>by
    have hb:Below w.heap.size w X:=HI.out.bel.trans (hX.mono hsr)
    have hcn:=HI.out.cnt
    have hst:=zcX g i hlt
    have hsm:Jc (g.take (i+1))≤Jc g:=by
     conv=>rhs;rw[← List.take_append_drop (i+1) g]
     rw[zau];omega
    have hsr:=HSR.out
    exact zek X _ _ nb N bx S (zg g) (fun b=>b<w.heap.size) g[i].choice _ (HI.out.mkr.below hX) (HM.out.below hb) ((HCH.out.mono (fun b hl _=>hl)).kept (ZF hb)) (fun b hb=>by omega) hoi (by omega) hgi.1)
   have HGO:Hid (∀ X w1 N2 y n x S2,Below wr.heap.size wr X→x=(bx++y).getD n (0,0,0)→n<N2.length→Mk w1 (w.heap.size+1+1) (w.heap.size+1) nb N2 (bx++y) S2→Goes N N2→N2.length≤N.length+2 * wtC g[i].choice→DnP N2 (zg g) n (.group g[i].choice)→KpM [w.heap.size+1+1] X.heap.size X w1→GrS X S S2→Hid (MkL w (w.heap.size+1+1) (w.heap.size+1) nb w.heap.size g (zg g) (i+1) (w1.setCell ⟨w.heap.size,i,none⟩ (zT x)) N2 (bx++y) S2 (rs++[n]))):=z6 (fun X w1 N2 y n x S2 hX hx hn h1 hg hl hd hK hS=>z6 (HI.out.next hlt (by omega) (by omega) (by omega) (by omega) (by omega) (by omega) hX hx hn h1 hg hl hd hK hS))
   have HKP:Hid (∀ X w1,Below wr.heap.size wr X→KpM [w.heap.size+1+1] X.heap.size X w1→(∃ cur:Array Value,w1.heap[w.heap.size]? = some (.cells cur 226 (0,0))∧cur.size=g.length)∧w1.heap[w.heap.size+1]? = some (Zz (.slice (some ⟨w.heap.size,0,none⟩) g.length g.length) ⟨#[]⟩ (.map none) .nilIface)):=z6 (fun X w1 hX hK=>by
    have hXs:=hX.size
    obtain⟨cu,h1,h2,_⟩:=HI.out.row
    have e1:=zd h1
    have e2:=zd HI.out.mat
    refine⟨⟨cu,?_,h2⟩,?_⟩
    ·rw[hK.block _ (by omega) (by simp;omega),hX.block _ e1];exact h1
    ·rw[hK.block _ (by omega) (by simp),hX.block _ e2];exact HI.out.mat)
   generalize g[i].name=nm at *
   generalize g[i].choice=ch at *
   generalize hcl:ch.length=cl at *
   clear hch hgi hoi hnl c0 c1 hcl
   go_wp2_with fail
   have hn1:w.heap.size+1+1≠w.heap.size:=by omega
   have hn2:w.heap.size+1≠w.heap.size:=by omega
   have hn3:wr.heap.size≠w.heap.size:=by omega
   have hn4:w.heap.size≠wr.heap.size:=by omega
   have hig:i<g.length:=hlt
   have hsf:∀ (a:Addr) (fn:Fn) (x c:Array Value) (W:World),(store a (.func fn x c)).run Tryz.prog W=stored Tryz.prog W a (.func fn x c) .plain:=fun a fn x c W=>run_store Tryz.prog W a _ _ rfl
   have HW:Hid (∀ w1:World,KpM [w.heap.size+1+1] ((wr.alloc (.cells #[.string ⟨nm.toArray⟩,.slice ca cl cc] 142)).drew).heap.size ((wr.alloc (.cells #[.string ⟨nm.toArray⟩,.slice ca cl cc] 142)).drew) w1→w1.heap[wr.heap.size]? = some (.cells #[.string ⟨nm.toArray⟩,.slice ca cl cc] 142)):=z6 (fun w1 hK=>by
    rw[hK.block wr.heap.size (by show _<(wr.alloc _).heap.size;simp) (by simp;omega)]
    exact zk _ _)
   go_region_held_law (fun w'=>w'.cell? ⟨w.heap.size+1+1,0,none⟩=some (z9 (w.heap.size+1))∧w'.cell? ⟨w.heap.size+1,0,none⟩=some (.slice (some ⟨w.heap.size,0,none⟩) g.length g.length)∧w'.cell? ⟨wr.heap.size,1,none⟩=some (.slice ca cl cc)) (first | exact⟨qU q0 hn1,qU q1 hn2,qU q2 hn3⟩ | go_keep)
    (first
     | (go_at_call 119; refine (HPC.out _ ((zc wr _).drew)).mono ?_; rintro _ w1 ⟨N2, y2, n, x, S2, rfl, hx, hn, h1, hg, hl2, hd, hK, hS⟩; obtain ⟨⟨cu, hcu, hcuz⟩, hma⟩ := HKP.out _ w1 ((zc wr _).drew) hK; have q0 : w1.cell? ⟨w.heap.size + 1 + 1, 0, none⟩ = some (z9 (w.heap.size + 1)) := z8 h1.blk 0; have q1 : w1.cell? ⟨w.heap.size + 1, 0, none⟩ = some (.slice (some ⟨w.heap.size, 0, none⟩) g.length g.length) := z8 hma 0; have q2 : w1.cell? ⟨wr.heap.size, 1, none⟩ = some (.slice ca cl cc) := z8 (HW.out w1 hK) 1; have f1 := zi hcu i; obtain ⟨ov, q3⟩ : ∃ v, w1.cell? ⟨w.heap.size, i, none⟩ = some v := ⟨cu[i]'(by omega), (by rw [z8 hcu i]; exact Array.getElem?_eq_getElem _)⟩; have hl3 := za hcu; have hl4 := za h1.blk; have hl5 := za hma; have HF := HGO.out _ w1 N2 y2 n x S2 ((zc wr _).drew) hx hn h1 hg hl2 hd hK hS; clear hx h1 hg hl2 hd hK hS hn hcu hma hcuz))
   all_goals go_wp2_with fail
   all_goals
    go_roundg (g.length - (i+1))
    case measure=>omega
    case rel=>exact⟨i+1,_,_,_,_,rfl,by go_num,by omega,HF⟩
  ·have hlt':¬ (i:Int)<g.length:=by omega
   have hie:i=g.length:=by omega
   subst hie
   have k0:wr.cell? ⟨w.heap.size+1+1,0,none⟩=some (z9 (w.heap.size+1)):=z8 HI.out.mkr.blk 0
   have hkl:=za HI.out.mkr.blk
   have HZ:Hid (zaJ g w (.returned (z9 (w.heap.size+1))) wr):=z6 ⟨w.heap.size+1,N,bx,rs,_,_,rfl,HI.out.mat' (by omega),HI.out.mat,⟨HI.out.len,fun i h1 h2=>HI.out.dn i h2 h1⟩,HI.out.bel,by omega,fun b hb=>by
    rcases hb with hb | rfl
    ·exact HI.out.gr b hb
    ·exact .inl (Nat.le_refl _)⟩
   go_wp2_with fail
   go_ret
   exact HZ.out
end Go.Proofs.YtiganlkabilblaaGreatDoor
