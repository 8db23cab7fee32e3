import Derived.Test.YtiganlkabilblaaGreatDoorVL16
set_option linter.all false
set_option maxHeartbeats 64000000
set_option maxRecDepth 100000
namespace Go.Proofs.YtiganlkabilblaaGreatDoor
open Go.RowKit Thk
attribute [local go_sem ↓] Go.wp_at_zero Go.wp_at_succ
theorem zfn {wM:World} {mb tb:Nat} {N:List Nd} {bx:List (Nat × Nat × Nat)} {rules:List Nat} {vr:Value} {s:ByteArray} (M:Mde wM mb N bx rules vr) {f:Nat} (hC:JE wM mb tb N bx rules vr s f) (i bm bi:Nat) (hbm:wM.heap[bm]? = some (zh (z9 mb) 113)) (hbi:wM.heap[bi]? = some (zh (.int .i64 i) 3)) (hrl:rules.length≤100000) (hsz:s.size≤1000000) (k j:Nat) (o:Out) (hi:rules[i]? = some j) (hv:evN N rules s.data.toList f j k=some o) (hk:k≤s.size) (w:World) (h:MS wM mb tb N rules vr s .nil w) :
  Calls Tryz.prog 215 #[.int .i64 k,z9 bm,z9 bi] w (Ye wM mb tb N rules vr s .nil (QZ i k o) w):=by
 have p1:=h.box M hbm
 have p2:=h.box M hbi
 have q1:=z8 p1
 have q2:=z8 p2
 have l1:=za p1
 have l2:=za p2
 have l1':=zd p1
 have n1:=M.ne hbm
 have n1t:bm≠tb:=fun e=>by have:=zd hbm;have:=h.tge;omega
 have hin:∀ x,o=some x→k≤x.1∧x.1≤s.size:=fun x hx=>by
  have:=UG N rules s.data.toList f j k x.1 x.2 (by simpa using hk) (by rw[hv,hx])
  simpa using this
 have HIN:=z6 hin
 have HP1:=z6 p1
 have HU:=z6 (fun (W:World) (hW:MS wM mb tb N rules vr s .nil W)=>zdi M hC i j k o hi hrl hv hk W .nil hW)
 have HM:=z6 h
 have HH:=z6 (And.intro h.size (And.intro h.tlt h.mlt))
 clear h hC hbm hbi M p1 p2 hi hv hin
 go_enter Tryz.func215,Tryz.ntmps215
 go_wp2_with fail
 refine (HU.out _ (HM.out.below (zc w _))).mono ?_
 rintro _ w1 ⟨rfl,hs1,hk1⟩
 have hb0:w1.heap[w.heap.size]? = some ZR:=by
  rw[hk1.block _ (by simp) (by simp;have:=HH.out;omega)]
  exact zk _ _
 have hq1:w1.heap[bm]? = some (zh (z9 mb) 113):=by
  rw[hk1.block _ (by simp;omega) (by simp[n1,n1t]),zm _ _ l1'];exact HP1.out
 have z0:=z8 hb0
 have f0:=zi hb0
 have l0:=za hb0
 have z1:=z8 hq1
 have lz1:=za hq1
 have HS1:=z6 hs1
 have HK1:Hid (KpM [mb,tb] w.heap.size w w1):=z6 ((KpM.of_below (zc w _)).trans (hk1.mono (by simp)))
 have HB0:=z6 hb0
 have HQ1:=z6 hq1
 clear hs1 hk1 hb0 q1 q2 HU hq1
 cases o with
 | none=>
  have ho:J1 i k none = .agg #[.int .i64 0,.int .i64 0,.int .i64 0,.nilIface]:=rfl
  have ho2:Option.isSome (none:Out)=false:=rfl
  rw[ho,ho2]
  go_wp2_with fail
  refine (VV _ 0 _ _ _ (by omega) (by omega) (by omega) (by omega) (by omega) _).mono ?_
  rintro _ w2 ⟨rfl,hb2⟩
  have hlt0:=zd HB0.out
  have hc0:w2.heap[w.heap.size]? = some ZR:=by rw[hb2.block _ (by simp;omega),zm _ _ hlt0];exact HB0.out
  have hc1:w2.heap[w1.heap.size]? = some (.cells #[.int .i64 0,.int .i64 0,.int .i64 0,.nilIface] 108 (0,0)):=by rw[hb2.block _ (by simp)];exact zk _ _
  have hc2:w2.heap[bm]? = some (zh (z9 mb) 113):=by rw[hb2.block _ (by have:=zd HQ1.out;simp;omega),zm _ _ (zd HQ1.out)];exact HQ1.out
  have hBB:Below w.heap.size w1 w2:=((Below.refl _ w1).alloc (Nat.le_of_lt hlt0) (.cells #[.int .i64 0,.int .i64 0,.int .i64 0,.nilIface] 108 (0,0))).trans (hb2.mono (by simp;omega))
  have HS2:=z6 (HS1.out.low HH.out.1 HH.out.2.1 hBB)
  have HK2:=z6 (HK1.out.low hBB)
  have y0:=z8 hc0
  have g0:=zi hc0
  have m0:=za hc0
  have y1:=z8 hc1
  have m1:=za hc1
  have y2:=z8 hc2
  have m2:=za hc2
  have HC0:=z6 hc0
  have HC1:=z6 hc1
  clear hb2 hc0 hc1 hc2 hBB z0 f0 l0 z1 lz1 hlt0
  go_wp2_with fail
  refine bodyPost_ret (results_cell_row rfl _ _ w.heap.size _ _ _ _ rfl (Jw HC0.out _ _) Tryz.underlying229 rfl (by kernel_rfl)) rfl ?_
  have hbf:=QT w2 w.heap.size
  exact⟨rfl,HS2.out.low HH.out.1 HH.out.2.1 (hbf _ _),HK2.out.low (hbf _ _)⟩
 | some x=>
  have hf:=QV x.2
  have hle:=HIN.out x rfl
  obtain⟨nv,hnv⟩:∃ nv,nv=ntV x.2:=⟨_,rfl⟩
  have hu:J1 i k (some x) = .agg #[.int .i64 i,.int .i64 k,.int .i64 x.1,nv]:=by rw[hnv];rfl
  have ho2:Option.isSome (some x:Out)=true:=rfl
  have HUV:Hid (ntV (.use i k x.1 x.2) = .iface 108 (.agg #[.int .i64 i,.int .i64 k,.int .i64 x.1,nv])):=z6 (by rw[hnv];rfl)
  rw[hu,ho2]
  rw[← hnv] at hf
  clear hu ho2 hnv
  by_cases hlt:k<x.1
  ·have hno:QZ i k (some x)=some (x.1,.use i k x.1 x.2):=by simp only[QZ,if_pos hlt]
   have HNO:=z6 hno
   clear hno
   have hgt:decide ((0:Int)<(x.1:Int) - (k:Int))=true:=decide_eq_true (by omega)
   rcases hf with rfl | ⟨t,v,rfl⟩
   ·go_wp2_with fail
    refine (VV _ ((x.1:Int) - k) _ _ _ (by omega) (by omega) (by omega) (by omega) (by omega) _).mono ?_
    rintro _ w2 ⟨rfl,hb2⟩
    have hlt0:=zd HB0.out
    have hc0:w2.heap[w.heap.size]? = some ZR:=by rw[hb2.block _ (by simp;omega),zm _ _ hlt0];exact HB0.out
    have hc1:w2.heap[w1.heap.size]? = some (.cells #[.int .i64 i,.int .i64 k,.int .i64 x.1,.nilIface] 108 (0,0)):=by rw[hb2.block _ (by simp)];exact zk _ _
    have hc2:w2.heap[bm]? = some (zh (z9 mb) 113):=by rw[hb2.block _ (by have:=zd HQ1.out;simp;omega),zm _ _ (zd HQ1.out)];exact HQ1.out
    have hBB:Below w.heap.size w1 w2:=((Below.refl _ w1).alloc (Nat.le_of_lt hlt0) (.cells #[.int .i64 i,.int .i64 k,.int .i64 x.1,.nilIface] 108 (0,0))).trans (hb2.mono (by simp;omega))
    have HS2:=z6 (HS1.out.low HH.out.1 HH.out.2.1 hBB)
    have HK2:=z6 (HK1.out.low hBB)
    have y0:=z8 hc0
    have g0:=zi hc0
    have m0:=za hc0
    have y1:=z8 hc1
    have m1:=za hc1
    have y2:=z8 hc2
    have m2:=za hc2
    have HC0:=z6 hc0
    have HC1:=z6 hc1
    clear hb2 hc0 hc1 hc2 hBB z0 f0 l0 z1 lz1 hlt0
    have HN:=z6 (KQ w2 mb vr s (.map (some tb)) .nil (.use i k x.1 x.2) HS2.out.blk)
    rw[HUV.out] at HN
    go_wp2_with fail
    refine HN.out.mono ?_
    rintro _ w3 ⟨rfl,hw3⟩
    have hne0:w.heap.size≠mb:=by have:=HH.out;omega
    have hne1:w1.heap.size≠mb:=by have:=zd HB0.out;have:=HH.out;omega
    have hd0:w3.heap[w.heap.size]? = some ZR:=by rw[hw3,Below.heap_setCell _ _ _ _ hne0];exact HC0.out
    have hd1:w3.heap[w1.heap.size]? = some (.cells #[.int .i64 i,.int .i64 k,.int .i64 x.1,.nilIface] 108 (0,0)):=by rw[hw3,Below.heap_setCell _ _ _ _ hne1];exact HC1.out
    have HS3:Hid (MS wM mb tb N rules vr s (.use i k x.1 x.2) w3):=by rw[hw3];exact z6 (HS2.out.noted _)
    have HK3:Hid (KpM [mb,tb] w.heap.size w w3):=by rw[hw3];exact z6 (HK2.out.noted _)
    have u0:=z8 hd0
    have i0:=zi hd0
    have r0:=za hd0
    have u1:=z8 hd1
    have r1:=za hd1
    have HD0:=z6 hd0
    clear hw3 hd0 hd1 y0 g0 m0 y1 m1 y2 m2
    go_wp2_with fail
    refine bodyPost_ret (results_cell_row rfl _ _ w.heap.size _ _ _ _ rfl (Jw HD0.out _ _) Tryz.underlying229 rfl (by kernel_rfl)) rfl ?_
    have hbf:=QT w3 w.heap.size
    rw[HNO.out]
    exact⟨rfl,HS3.out.low HH.out.1 HH.out.2.1 (hbf _ _),HK3.out.low (hbf _ _)⟩
   ·go_wp2_with fail
    refine (VV _ ((x.1:Int) - k) _ _ _ (by omega) (by omega) (by omega) (by omega) (by omega) _).mono ?_
    rintro _ w2 ⟨rfl,hb2⟩
    have hlt0:=zd HB0.out
    have hc0:w2.heap[w.heap.size]? = some ZR:=by rw[hb2.block _ (by simp;omega),zm _ _ hlt0];exact HB0.out
    have hc1:w2.heap[w1.heap.size]? = some (.cells #[.int .i64 i,.int .i64 k,.int .i64 x.1,.iface t v] 108 (0,0)):=by rw[hb2.block _ (by simp)];exact zk _ _
    have hc2:w2.heap[bm]? = some (zh (z9 mb) 113):=by rw[hb2.block _ (by have:=zd HQ1.out;simp;omega),zm _ _ (zd HQ1.out)];exact HQ1.out
    have hBB:Below w.heap.size w1 w2:=((Below.refl _ w1).alloc (Nat.le_of_lt hlt0) (.cells #[.int .i64 i,.int .i64 k,.int .i64 x.1,.iface t v] 108 (0,0))).trans (hb2.mono (by simp;omega))
    have HS2:=z6 (HS1.out.low HH.out.1 HH.out.2.1 hBB)
    have HK2:=z6 (HK1.out.low hBB)
    have y0:=z8 hc0
    have g0:=zi hc0
    have m0:=za hc0
    have y1:=z8 hc1
    have m1:=za hc1
    have y2:=z8 hc2
    have m2:=za hc2
    have HC0:=z6 hc0
    have HC1:=z6 hc1
    clear hb2 hc0 hc1 hc2 hBB z0 f0 l0 z1 lz1 hlt0
    have HN:=z6 (KQ w2 mb vr s (.map (some tb)) .nil (.use i k x.1 x.2) HS2.out.blk)
    rw[HUV.out] at HN
    go_wp2_with fail
    refine HN.out.mono ?_
    rintro _ w3 ⟨rfl,hw3⟩
    have hne0:w.heap.size≠mb:=by have:=HH.out;omega
    have hne1:w1.heap.size≠mb:=by have:=zd HB0.out;have:=HH.out;omega
    have hd0:w3.heap[w.heap.size]? = some ZR:=by rw[hw3,Below.heap_setCell _ _ _ _ hne0];exact HC0.out
    have hd1:w3.heap[w1.heap.size]? = some (.cells #[.int .i64 i,.int .i64 k,.int .i64 x.1,.iface t v] 108 (0,0)):=by rw[hw3,Below.heap_setCell _ _ _ _ hne1];exact HC1.out
    have HS3:Hid (MS wM mb tb N rules vr s (.use i k x.1 x.2) w3):=by rw[hw3];exact z6 (HS2.out.noted _)
    have HK3:Hid (KpM [mb,tb] w.heap.size w w3):=by rw[hw3];exact z6 (HK2.out.noted _)
    have u0:=z8 hd0
    have i0:=zi hd0
    have r0:=za hd0
    have u1:=z8 hd1
    have r1:=za hd1
    have HD0:=z6 hd0
    clear hw3 hd0 hd1 y0 g0 m0 y1 m1 y2 m2
    go_wp2_with fail
    refine bodyPost_ret (results_cell_row rfl _ _ w.heap.size _ _ _ _ rfl (Jw HD0.out _ _) Tryz.underlying229 rfl (by kernel_rfl)) rfl ?_
    have hbf:=QT w3 w.heap.size
    rw[HNO.out]
    exact⟨rfl,HS3.out.low HH.out.1 HH.out.2.1 (hbf _ _),HK3.out.low (hbf _ _)⟩
  ·have hno:QZ i k (some x)=some (x.1,.nil):=by simp only[QZ,if_neg hlt]
   have HNO:=z6 hno
   clear hno
   have hgt:decide ((0:Int)<(x.1:Int) - (k:Int))=false:=decide_eq_false (by omega)
   rcases hf with rfl | ⟨t,v,rfl⟩
   ·go_wp2_with fail
    refine (VV _ ((x.1:Int) - k) _ _ _ (by omega) (by omega) (by omega) (by omega) (by omega) _).mono ?_
    rintro _ w2 ⟨rfl,hb2⟩
    have hlt0:=zd HB0.out
    have hc0:w2.heap[w.heap.size]? = some ZR:=by rw[hb2.block _ (by simp;omega),zm _ _ hlt0];exact HB0.out
    have hc1:w2.heap[w1.heap.size]? = some (.cells #[.int .i64 i,.int .i64 k,.int .i64 x.1,.nilIface] 108 (0,0)):=by rw[hb2.block _ (by simp)];exact zk _ _
    have hc2:w2.heap[bm]? = some (zh (z9 mb) 113):=by rw[hb2.block _ (by have:=zd HQ1.out;simp;omega),zm _ _ (zd HQ1.out)];exact HQ1.out
    have hBB:Below w.heap.size w1 w2:=((Below.refl _ w1).alloc (Nat.le_of_lt hlt0) (.cells #[.int .i64 i,.int .i64 k,.int .i64 x.1,.nilIface] 108 (0,0))).trans (hb2.mono (by simp;omega))
    have HS2:=z6 (HS1.out.low HH.out.1 HH.out.2.1 hBB)
    have HK2:=z6 (HK1.out.low hBB)
    have y0:=z8 hc0
    have g0:=zi hc0
    have m0:=za hc0
    have y1:=z8 hc1
    have m1:=za hc1
    have y2:=z8 hc2
    have m2:=za hc2
    have HC0:=z6 hc0
    have HC1:=z6 hc1
    clear hb2 hc0 hc1 hc2 hBB z0 f0 l0 z1 lz1 hlt0
    go_wp2_with fail
    refine bodyPost_ret (results_cell_row rfl _ _ w.heap.size _ _ _ _ rfl (Jw HC0.out _ _) Tryz.underlying229 rfl (by kernel_rfl)) rfl ?_
    have hbf:=QT w2 w.heap.size
    rw[HNO.out]
    exact⟨rfl,HS2.out.low HH.out.1 HH.out.2.1 (hbf _ _),HK2.out.low (hbf _ _)⟩
   ·go_wp2_with fail
    refine (VV _ ((x.1:Int) - k) _ _ _ (by omega) (by omega) (by omega) (by omega) (by omega) _).mono ?_
    rintro _ w2 ⟨rfl,hb2⟩
    have hlt0:=zd HB0.out
    have hc0:w2.heap[w.heap.size]? = some ZR:=by rw[hb2.block _ (by simp;omega),zm _ _ hlt0];exact HB0.out
    have hc1:w2.heap[w1.heap.size]? = some (.cells #[.int .i64 i,.int .i64 k,.int .i64 x.1,.iface t v] 108 (0,0)):=by rw[hb2.block _ (by simp)];exact zk _ _
    have hc2:w2.heap[bm]? = some (zh (z9 mb) 113):=by rw[hb2.block _ (by have:=zd HQ1.out;simp;omega),zm _ _ (zd HQ1.out)];exact HQ1.out
    have hBB:Below w.heap.size w1 w2:=((Below.refl _ w1).alloc (Nat.le_of_lt hlt0) (.cells #[.int .i64 i,.int .i64 k,.int .i64 x.1,.iface t v] 108 (0,0))).trans (hb2.mono (by simp;omega))
    have HS2:=z6 (HS1.out.low HH.out.1 HH.out.2.1 hBB)
    have HK2:=z6 (HK1.out.low hBB)
    have y0:=z8 hc0
    have g0:=zi hc0
    have m0:=za hc0
    have y1:=z8 hc1
    have m1:=za hc1
    have y2:=z8 hc2
    have m2:=za hc2
    have HC0:=z6 hc0
    have HC1:=z6 hc1
    clear hb2 hc0 hc1 hc2 hBB z0 f0 l0 z1 lz1 hlt0
    go_wp2_with fail
    refine bodyPost_ret (results_cell_row rfl _ _ w.heap.size _ _ _ _ rfl (Jw HC0.out _ _) Tryz.underlying229 rfl (by kernel_rfl)) rfl ?_
    have hbf:=QT w2 w.heap.size
    rw[HNO.out]
    exact⟨rfl,HS2.out.low HH.out.1 HH.out.2.1 (hbf _ _),HK2.out.low (hbf _ _)⟩
theorem MS.row {wM:World} {mb tb:Nat} {N:List Nd} {bx:List (Nat × Nat × Nat)} {rules:List Nat} {vr:Value} {s:ByteArray} {nt:Nt} {w:World} (h:MS wM mb tb N rules vr s nt w) {ks:List Nat} {a:Option Addr} (hr:Yu wM mb bx ks a) (j:Nat) (hj:j<ks.length):∃ g,a=some ⟨g,0,none⟩∧g<w.heap.size∧w.cell? ⟨g,j,none⟩=some (clV bx ks[j]):=by
 obtain⟨g,h1,h2,h3,h4⟩:=hr j hj
 refine⟨g,h1,Nat.lt_of_lt_of_le h2 h.size,?_⟩
 rw[← h4]
 simp only[World.cell?,h.old g h2 h3]
structure LpC (wM:World) (mb tb:Nat) (N:List Nd) (rules:List Nat) (vr:Value) (s:ByteArray) (w:World) (nt:Nt) (o:Obj) (wr:World):Prop where
 ms:MS wM mb tb N rules vr s nt wr
 kp:KpM [mb,tb] w.heap.size w wr
 blk:wr.heap[w.heap.size]? = some o
theorem zfk {wM:World} {mb tb:Nat} {N:List Nd} {bx:List (Nat × Nat × Nat)} {rules:List Nat} {vr:Value} {s:ByteArray} (M:Mde wM mb N bx rules vr) {f:Nat} (hC:JE wM mb tb N bx rules vr s f) (ks:List Nat) (bs:Nat) (a:Option Addr) (c:Nat) (hb:wM.heap[bs]? = some (zh (.slice a ks.length c) 175)) (hrow:Yu wM mb bx ks a) (hkl:ks.length≤1000000) (k:Nat) (r:Out) (hv:chN (evN N rules s.data.toList f) ks k=some r) (hk:k≤s.size) (w:World) (h:MS wM mb tb N rules vr s .nil w) :
  Calls Tryz.prog 151 #[.int .i64 k,z9 bs] w (Ye wM mb tb N rules vr s .nil r w):=by
 have p1:=h.box M hb
 have q1:=z8 p1
 have l1:=za p1
 have HH:=z6 (And.intro h.size (And.intro h.tlt h.mlt))
 have HL:Hid (LpC wM mb tb N rules vr s w .nil ZR (w.alloc ZR)):=z6 ⟨h.below (zc _ _),KpM.of_below (zc _ _),zk _ _⟩
 have HV:Hid (chN (evN N rules s.data.toList f) (ks.drop 0) k=some r):=z6 hv
 have HR:=z6 hrow
 have HCC:=z6 hC
 clear h hC hb M p1 hv hrow
 go_enter Tryz.func151,Tryz.ntmps151
 go_wp2_with fail
 go_loopg [9] ks.length (fun m i wr=>∃ t:Nat,m=ks.length - t∧t≤ks.length∧i = .int .i64 t∧Hid (LpC wM mb tb N rules vr s w .nil ZR wr)∧Hid (chN (evN N rules s.data.toList f) (ks.drop t) k=some r))
 case atStart=>exact⟨0,rfl,Nat.zero_le _,rfl,HL,HV⟩
 case round=>
  obtain⟨t,rfl,ht,rfl,hL,hH⟩:=hrel
  have z0:=z8 hL.out.blk
  have f0:=zi hL.out.blk
  have l0:=za hL.out.blk
  by_cases hlt:t<ks.length
  ·obtain⟨g,rfl,hgl,c0⟩:=hL.out.ms.row HR.out t hlt
   have hlt':(t:Int)<ks.length:=by omega
   have hvt:=hH.out
   rw[List.drop_eq_getElem_cons hlt] at hvt
   simp only[chN] at hvt
   cases ho1:evN N rules s.data.toList f ks[t] k with
   | none=>rw[ho1] at hvt;cases hvt
   | some o=>
    rw[ho1] at hvt
    have HC:=z6 (HCC.out.at (nt:=.nil) ho1 hk hL.out.ms hL.out.kp (by have:=zd hL.out.blk;omega))
    simp only[clV,zT] at c0
    have HVT:=z6 hvt
    clear hvt ho1
    generalize (bx.getD ks[t] (0,0,0)).1=x1 at *
    generalize (bx.getD ks[t] (0,0,0)).2.1=x2 at *
    generalize (bx.getD ks[t] (0,0,0)).2.2=x3 at *
    go_wp2_with fail
    refine HC.out.mono ?_
    rintro _ w1 ⟨rfl,hs1,hk1,hz1,hb1⟩
    have hb0:w1.heap[w.heap.size]? = some ZR:=by
     rw[hb1 _ (zd hL.out.blk) (by have:=HH.out;omega) (by have:=HH.out;omega)]
     exact hL.out.blk
    have y0:=z8 hb0
    have g0:=zi hb0
    have m0:=za hb0
    have HS1:=z6 hs1
    have HK1:=z6 hk1
    have HB0:=z6 hb0
    clear hs1 hk1 hb0 hb1 hz1 z0 f0 l0 c0
    cases o with
    | none=>
     have ho:Q9 none = .agg #[.int .i64 0,.bool false]:=rfl
     rw[ho]
     go_wp2_with fail
     go_roundg (ks.length - (t+1))
     case measure=>omega
     case rel=>
      refine⟨t+1,rfl,by omega,by go_num,?_,HVT⟩
      have hbf:Below w.heap.size w1 (w1.alloc (.cells #[.int .i64 0,.bool false] 229 (0,0))):=(Below.refl _ _).alloc (Nat.le_of_lt (zd HB0.out)) _
      exact z6 ⟨HS1.out.low HH.out.1 HH.out.2.1 hbf,HK1.out.low hbf,by rw[zm _ _ (zd HB0.out)];exact HB0.out⟩
    | some x=>
     have ho:Q9 (some x) = .agg #[.int .i64 x.1,.bool true]:=rfl
     rw[ho]
     have hr:=HVT.out
     simp only[Option.some.injEq] at hr
     subst hr
     go_wp2_with fail
     refine bodyPost_ret (results_cell_row rfl _ _ w.heap.size _ _ _ _ rfl (KB HB0.out _ _ _) Tryz.underlying229 rfl (by kernel_rfl)) rfl ?_
     have hbf:=KA (Nat.le_of_lt (zd HB0.out))
     exact⟨rfl,HS1.out.low HH.out.1 HH.out.2.1 (hbf _ _ _),HK1.out.low (hbf _ _ _)⟩
  ·have hje:t=ks.length:=by omega
   have hRt:r=none:=by
    have h1:=hH.out
    rw[hje,List.drop_length] at h1
    simpa [chN] using h1.symm
   subst hRt
   have hlt':¬ (t:Int)<ks.length:=by omega
   clear hH
   go_wp2_with fail
   refine bodyPost_ret (results_cell_row rfl _ _ w.heap.size _ _ _ _ rfl (Jw hL.out.blk _ _) Tryz.underlying229 rfl (by kernel_rfl)) rfl ?_
   have hbf:=QT wr w.heap.size
   exact⟨rfl,hL.out.ms.low HH.out.1 HH.out.2.1 (hbf _ _),hL.out.kp.low (hbf _ _)⟩
abbrev Ka:Obj:=.cells #[.nilIface] 106 (0,0)
theorem zb1 {wM:World} {mb tb:Nat} {N:List Nd} {rules:List Nat} {vr:Value} {s:ByteArray} (w:World) (u:FrameMode) (rb bm bb:Nat) (nt:Nt) (e:Nat) (ok:Bool) (h:MS wM mb tb N rules vr s nt w) (h0:w.heap[rb]? = some (.cells #[.int .i64 e,.bool ok] 229 (0,0))) (h1:w.heap[bm]? = some (zh (z9 mb) 113)) (h2:w.heap[bb]? = some Ka) :
  CallsD Tryz.prog 176 #[z9 rb,z9 bm,z9 bb] u w fun e u' w'=>u'=u∧(e = .returned (.tuple #[])∧w'=if ok then w else w.setCell ⟨mb,3,none⟩ .nilIface):=by
 have q0:=z8 h0
 have l0:=za h0
 have q1:=z8 h1
 have l1:=za h1
 have q2:=z8 h2
 have l2:=za h2
 have HT:=z6 (zj3 w mb vr s _ _ .nil h.blk)
 clear h h0 h1 h2
 cases ok with
 | true=>
  go_enter_d Tryz.func176,Tryz.ntmps176
  go_wp2_with fail
  go_end0
  exact⟨rfl,rfl⟩
 | false=>
  go_enter_d Tryz.func176,Tryz.ntmps176
  go_wp2_with fail
  refine HT.out.mono ?_
  rintro _ w1 ⟨rfl,hw⟩
  go_wp2_with fail
  go_end0
  exact⟨rfl,by rfl⟩
structure LpS (wM:World) (mb tb:Nat) (N:List Nd) (rules:List Nat) (vr:Value) (s:ByteArray) (w:World) (bm:Nat) (nt:Nt) (o:Obj) (wr:World):Prop where
 ms:MS wM mb tb N rules vr s nt wr
 kp:KpM [mb,tb] w.heap.size w wr
 blk:wr.heap[w.heap.size]? = some o
 bef:wr.heap[w.heap.size+1]? = some Ka
 box:wr.heap[bm]? = some (zh (z9 mb) 113)
theorem zfp {wM:World} {mb tb:Nat} {N:List Nd} {bx:List (Nat × Nat × Nat)} {rules:List Nat} {vr:Value} {s:ByteArray} (M:Mde wM mb N bx rules vr) {f:Nat} (hC:JE wM mb tb N bx rules vr s f) (ks:List Nat) (bm bs:Nat) (a:Option Addr) (c:Nat) (hbm:wM.heap[bm]? = some (zh (z9 mb) 113)) (hb:wM.heap[bs]? = some (zh (.slice a ks.length c) 175)) (hrow:Yu wM mb bx ks a) (hkl:ks.length≤1000000) (k:Nat) (r:Out) (hv:sqN (evN N rules s.data.toList f) ks k .nil=some r) (hk:k≤s.size) (w:World) (h:MS wM mb tb N rules vr s .nil w) :
  Calls Tryz.prog 175 #[.int .i64 k,z9 bm,z9 bs] w (Ye wM mb tb N rules vr s .nil r w):=by
 have p1:=h.box M hb
 have q1:=z8 p1
 have l1:=za p1
 have p2:=h.box M hbm
 have q2:=z8 p2
 have l2:=za p2
 have q3:w.cell? ⟨mb,3,none⟩=some .nilIface:=z8 h.blk 3
 have l3:=zd h.blk
 have n2:=M.ne hbm
 have n2t:bm≠tb:=fun e=>by have:=zd hbm;have:=h.tge;omega
 have HH:=z6 (And.intro h.size (And.intro h.tlt h.mlt))
 have HV:Hid (sqN (evN N rules s.data.toList f) (ks.drop 0) k .nil=some r):=z6 hv
 have HR:=z6 hrow
 have HCC:=z6 hC
 have HM:=z6 h
 have HP2:=z6 p2
 clear h hC hb M p1 hv hrow p2 hbm
 go_enter_defers Tryz.func175,Tryz.ntmps175
 go_wp2_with fail
 have HL:Hid (LpS wM mb tb N rules vr s w bm .nil (.cells #[.int .i64 k,.bool true] 229 (0,0)) ((w.alloc (.cells #[.int .i64 k,.bool true] 229 (0,0))).alloc Ka)):=z6
  ⟨HM.out.below (QY _ _ _),KpM.of_below (QY _ _ _),by rw[zm _ _ (by simp)];exact zk _ _,by have:=zk (w.alloc (.cells #[.int .i64 k,.bool true] 229 (0,0))) Ka;simpa using this,by have:=zd HP2.out;rw[zm _ _ (by simp;omega),zm _ _ this];exact HP2.out⟩
 go_loopg [17] ks.length (fun m i wr=>∃ (t cur:Nat) (acc:Nt),m=ks.length - t∧t≤ks.length∧cur≤s.size∧i = .int .i64 t∧Hid (LpS wM mb tb N rules vr s w bm acc (.cells #[.int .i64 cur,.bool true] 229 (0,0)) wr)∧Hid (sqN (evN N rules s.data.toList f) (ks.drop t) cur acc=some r))
 case atStart=>exact⟨0,k,.nil,rfl,Nat.zero_le _,hk,rfl,HL,HV⟩
 case round=>
  obtain⟨t,cur,acc,rfl,ht,hcur,rfl,hL,hH⟩:=hrel
  have z0:=z8 hL.out.blk
  have f0:=zi hL.out.blk
  have l0:=za hL.out.blk
  by_cases hlt:t<ks.length
  ·obtain⟨g,rfl,hgl,c0⟩:=hL.out.ms.row HR.out t hlt
   have hlt':(t:Int)<ks.length:=by omega
   have hvt:=hH.out
   rw[List.drop_eq_getElem_cons hlt] at hvt
   simp only[sqN] at hvt
   cases ho1:evN N rules s.data.toList f ks[t] cur with
   | none=>rw[ho1] at hvt;cases hvt
   | some o=>
    rw[ho1] at hvt
    have HC:=z6 (HCC.out.at (nt:=acc) ho1 hcur hL.out.ms hL.out.kp (by have:=zd hL.out.blk;omega))
    have HIN:=z6 (fun x (hx:o=some x)=>UG N rules s.data.toList f ks[t] cur x.1 x.2 (by simpa using hcur) (by rw[ho1,hx]))
    simp only[clV,zT] at c0
    have HVT:=z6 hvt
    clear hvt ho1
    generalize (bx.getD ks[t] (0,0,0)).1=x1 at *
    generalize (bx.getD ks[t] (0,0,0)).2.1=x2 at *
    generalize (bx.getD ks[t] (0,0,0)).2.2=x3 at *
    go_wp2_with fail
    refine HC.out.mono ?_
    rintro _ w1 ⟨rfl,hs1,hk1,hz1,hb1⟩
    have hb0:w1.heap[w.heap.size]? = some (.cells #[.int .i64 cur,.bool true] 229 (0,0)):=by
     rw[hb1 _ (zd hL.out.blk) (by have:=HH.out;omega) (by have:=HH.out;omega)]
     exact hL.out.blk
    have hbb:w1.heap[w.heap.size+1]? = some Ka:=by
     rw[hb1 _ (zd hL.out.bef) (by have:=HH.out;omega) (by have:=HH.out;omega)]
     exact hL.out.bef
    have hbm:w1.heap[bm]? = some (zh (z9 mb) 113):=by
     rw[hb1 _ (zd hL.out.box) n2 n2t]
     exact hL.out.box
    have y0:=z8 hb0
    have g0:=zi hb0
    have m0:=za hb0
    have HS1:=z6 hs1
    have HK1:=z6 hk1
    have HB0:=z6 hb0
    have HBB:=z6 hbb
    have HBM:=z6 hbm
    clear hs1 hk1 hb0 hb1 hz1 z0 f0 l0 c0 hbb hbm
    cases o with
    | none=>
     have ho:Q9 none = .agg #[.int .i64 0,.bool false]:=rfl
     rw[ho]
     have hr:=HVT.out
     simp only[Option.some.injEq] at hr
     subst hr
     go_wp2_with fail
     have hbf:Below w.heap.size w1 ((((w1.setCell ⟨w.heap.size,0,none⟩ (.int .i64 0)).setCell ⟨w.heap.size,1,none⟩ (.bool false)).setCell ⟨w.heap.size,0,none⟩ (.int .i64 0)).setCell ⟨w.heap.size,1,none⟩ (.bool false)):=(QT _ _ _ _).trans (QT _ _ _ _)
     obtain⟨X,hX⟩:∃ X,X=((((w1.setCell ⟨w.heap.size,0,none⟩ (.int .i64 0)).setCell ⟨w.heap.size,1,none⟩ (.bool false)).setCell ⟨w.heap.size,0,none⟩ (.int .i64 0)).setCell ⟨w.heap.size,1,none⟩ (.bool false)):=⟨_,rfl⟩
     have hnb:w.heap.size≠bm:=by have:=l2;omega
     have x0:X.heap[w.heap.size]? = some (.cells #[.int .i64 ((0:Nat):Int),.bool false] 229 (0,0)):=by rw[hX,zo (zo (zo (zo HB0.out _) _) _) _];rfl
     have x1:X.heap[w.heap.size+1]? = some Ka:=by rw[hX,Below.heap_setCell _ _ _ _ (by simp),Below.heap_setCell _ _ _ _ (by simp),Below.heap_setCell _ _ _ _ (by simp),Below.heap_setCell _ _ _ _ (by simp)];exact HBB.out
     have x2:X.heap[bm]? = some (zh (z9 mb) 113):=by rw[hX,Below.heap_setCell _ _ _ _ hnb.symm,Below.heap_setCell _ _ _ _ hnb.symm,Below.heap_setCell _ _ _ _ hnb.symm,Below.heap_setCell _ _ _ _ hnb.symm];exact HBM.out
     rw[← hX] at hbf
     rw[← hX]
     have xm:=HS1.out.low HH.out.1 HH.out.2.1 hbf
     refine leaves_cons (f:=176) (args:=#[z9 w.heap.size,z9 bm,z9 (w.heap.size+1)]) (by simp) (by simp[go_sem]) ?_
     refine (zb1 X .returning w.heap.size bm (w.heap.size+1) _ 0 false xm x0 x2 x1).mono ?_
     rintro e u' w'' ⟨rfl,rfl,hw⟩
     simp only[Bool.false_eq_true,if_false] at hw
     subst hw
     have hrb:w.heap.size≠mb:=by have:=HH.out;omega
     refine⟨_,results_cell_row rfl _ _ w.heap.size _ _ _ _ rfl (by rw[Below.heap_setCell _ _ _ _ hrb];exact x0) Tryz.underlying229 rfl (by kernel_rfl),?_⟩
     exact⟨rfl,xm.noted .nil,(HK1.out.low hbf).noted _⟩
    | some x=>
     have ho:Q9 (some x) = .agg #[.int .i64 x.1,.bool true]:=rfl
     rw[ho]
     go_wp2_with fail
     go_roundg (ks.length - (t+1))
     case measure=>omega
     case rel=>
      refine⟨t+1,x.1,jn acc x.2,rfl,by omega,by have:=(HIN.out x rfl).2;simpa using this,by go_num,?_,HVT⟩
      have hbf:=QT w1 w.heap.size (.int .i64 x.1) (.bool true)
      have hnb:w.heap.size≠bm:=by have:=l2;omega
      exact z6 ⟨HS1.out.low HH.out.1 HH.out.2.1 hbf,HK1.out.low hbf,by rw[zo (zo HB0.out _) _];rfl,
       by rw[Below.heap_setCell _ _ _ _ (by simp),Below.heap_setCell _ _ _ _ (by simp)];exact HBB.out,
       by rw[Below.heap_setCell _ _ _ _ hnb.symm,Below.heap_setCell _ _ _ _ hnb.symm];exact HBM.out⟩
  ·have hje:t=ks.length:=by omega
   have hRt:r=some (cur,acc):=by
    have h1:=hH.out
    rw[hje,List.drop_length] at h1
    simpa [sqN] using h1.symm
   subst hRt
   have hlt':¬ (t:Int)<ks.length:=by omega
   clear hH
   go_wp2_with fail
   have hbf:Below w.heap.size wr ((wr.setCell ⟨w.heap.size,0,none⟩ (.int .i64 cur)).setCell ⟨w.heap.size,1,none⟩ (.bool true)):=QT _ _ _ _
   obtain⟨X,hX⟩:∃ X,X=((wr.setCell ⟨w.heap.size,0,none⟩ (.int .i64 cur)).setCell ⟨w.heap.size,1,none⟩ (.bool true)):=⟨_,rfl⟩
   have hnb:w.heap.size≠bm:=by have:=l2;omega
   have x0:X.heap[w.heap.size]? = some (.cells #[.int .i64 cur,.bool true] 229 (0,0)):=by rw[hX,zo (zo hL.out.blk _) _];rfl
   have x1:X.heap[w.heap.size+1]? = some Ka:=by rw[hX,Below.heap_setCell _ _ _ _ (by simp),Below.heap_setCell _ _ _ _ (by simp)];exact hL.out.bef
   have x2:X.heap[bm]? = some (zh (z9 mb) 113):=by rw[hX,Below.heap_setCell _ _ _ _ hnb.symm,Below.heap_setCell _ _ _ _ hnb.symm];exact hL.out.box
   rw[← hX] at hbf
   rw[← hX]
   have xm:=hL.out.ms.low HH.out.1 HH.out.2.1 hbf
   refine leaves_cons (f:=176) (args:=#[z9 w.heap.size,z9 bm,z9 (w.heap.size+1)]) (by simp) (by simp[go_sem]) ?_
   refine (zb1 X .returning w.heap.size bm (w.heap.size+1) _ cur true xm x0 x2 x1).mono ?_
   rintro e u' w'' ⟨rfl,rfl,hw⟩
   simp only[if_true] at hw
   subst hw
   refine⟨_,results_cell_row rfl _ _ w.heap.size _ _ _ _ rfl x0 Tryz.underlying229 rfl (by kernel_rfl),?_⟩
   exact⟨rfl,by rw[VI];exact xm,hL.out.kp.low hbf⟩
end Go.Proofs.YtiganlkabilblaaGreatDoor
