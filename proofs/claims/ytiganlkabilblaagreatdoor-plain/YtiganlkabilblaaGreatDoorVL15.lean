import Derived.Test.YtiganlkabilblaaGreatDoorVL14
set_option linter.all false
set_option maxHeartbeats 64000000
set_option maxRecDepth 100000
namespace Go.Proofs.YtiganlkabilblaaGreatDoor
open Go.RowKit Thk
attribute [local go_sem ↓] Go.wp_at_zero Go.wp_at_succ
theorem zcD {w:World} {b:Nat} {x y z:Value} {T:TypeId} (h:w.heap[b]? = some (.cells #[x,y,z] T (0,0))) (u1 u2 u3 u4 u5 u6:Value):((((((w.setCell ⟨b,0,none⟩ u1).setCell ⟨b,1,none⟩ u2).setCell ⟨b,2,none⟩ u3).setCell ⟨b,0,none⟩ u4).setCell ⟨b,1,none⟩ u5).setCell ⟨b,2,none⟩ u6).heap[b]? = some (.cells #[u4,u5,u6] T (0,0)):=by
 rw[zo (zo (zo (zo (zo (zo h _) _) _) _) _) _];rfl
theorem zaY {wM:World} {mb tb:Nat} {N:List Nd} {rules:List Nat} {vr:Value} {s:ByteArray} (w:World) (g:Nat) (caps:Array Value) (k:Nat) (r:Out) (nt:Nt) (h:MS wM mb tb N rules vr s nt w)
  (hen:∀ (args:Array Value) (w:World),(callFunc g args).run Tryz.prog w = .ok (.enter g args) w)
  (he:∀ W,MS wM mb tb N rules vr s .nil W→Calls Tryz.prog g (#[.int .i64 k]++caps) W fun e w'=>e = .returned (Q9 r)∧MS wM mb tb N rules vr s (Zm r) w'∧KpM [mb,tb] W.heap.size W w') :
  Calls Tryz.prog 120 #[z9 mb,.func (.func g) #[] caps,.int .i64 k] w fun e w'=>e = .returned (Qb r)∧MS wM mb tb N rules vr s nt w'∧KpM [mb,tb] w.heap.size w w':=by
 have q:w.cell? ⟨mb,3,none⟩=some (ntV nt):=z8 h.blk 3
 have fz:=zi h.blk 3
 have hl:=zd h.blk
 have H:=z6 h
 have HE:=z6 he
 have hnf:=QV nt
 clear h he
 go_enter_defers Tryz.func120,Tryz.ntmps120
 go_wp2_with fail
 have hM1:MS wM mb tb N rules vr s .nil ((w.setCell ⟨mb,3,none⟩ .nilIface).alloc (.cells #[.int .i64 0,.bool false,.nilIface] 231)):=(H.out.noted .nil).below (zc _ _)
 refine (HE.out _ hM1).mono ?_
 rintro _ w1 ⟨rfl,hs1,hk1⟩
 obtain⟨W1,hW1⟩:∃ W1,W1=((w.setCell ⟨mb,3,none⟩ .nilIface).alloc (.cells #[.int .i64 0,.bool false,.nilIface] 231)):=⟨_,rfl⟩
 rw[← hW1] at hk1
 have hsz1:W1.heap.size=w.heap.size+1:=by rw[hW1];simp[World.setCell]
 have hr1:w1.heap[w.heap.size]? = some (.cells #[.int .i64 0,.bool false,.nilIface] 231 (0,0)):=by
  rw[hk1.block _ (by omega) (by simp;have:=H.out.tge;obtain⟨L,hL,_⟩:=H.out.memo;have:=hL.lt;omega),hW1]
  have:=zk (w.setCell ⟨mb,3,none⟩ .nilIface) (.cells #[.int .i64 0,.bool false,.nilIface] 231)
  simpa [World.setCell] using this
 have qm:w1.cell? ⟨mb,3,none⟩=some (ntV (Zm r)):=z8 hs1.blk 3
 have ml1:=zd hs1.blk
 have qr:=z8 hr1
 have fr:=zi hr1
 have lr:=za hr1
 have HS1:=z6 hs1
 have HK1:=z6 hk1
 have HSZ1:=z6 hsz1
 have HW1:=z6 hW1
 have hf:=QV (Zm r)
 obtain⟨nv,hnv⟩:∃ nv,nv=ntV (Zm r):=⟨_,rfl⟩
 rw[← hnv] at qm hf
 have HNV:=z6 hnv
 have HR1:=z6 hr1
 clear hs1 hk1 hr1 hW1 hM1 hsz1 hnv q fz
 rcases hf with rfl | ⟨t,x,rfl⟩
 ·go_wp2_with fail
  go_region
  all_goals
   go_wp2_with fail
   obtain⟨W5,hW5⟩:∃ W5,W5=(((((((w1.setCell ⟨w.heap.size,0,none⟩ (.int .i64 0)).setCell ⟨w.heap.size,1,none⟩ (.bool false)).setCell ⟨w.heap.size,2,none⟩ .nilIface).setCell ⟨w.heap.size,0,none⟩ (.int .i64 (zN r))).setCell ⟨w.heap.size,1,none⟩ (.bool r.isSome)).setCell ⟨w.heap.size,2,none⟩ .nilIface).alloc (.cells #[.int .i64 (zN r),.bool r.isSome] 229)).drew:=⟨_,rfl⟩
   rw[← hW5]
   have hb5:Below w.heap.size w1 W5:=by
    rw[hW5]
    refine Below.drew (Below.alloc ?_ (by simp[World.setCell];omega) _)
    exact ((((((Below.refl _ _).setCell (p:=⟨w.heap.size,0,none⟩) (Nat.le_refl _) _).setCell (p:=⟨w.heap.size,1,none⟩) (Nat.le_refl _) _).setCell (p:=⟨w.heap.size,2,none⟩) (Nat.le_refl _) _).setCell (p:=⟨w.heap.size,0,none⟩) (Nat.le_refl _) _).setCell (p:=⟨w.heap.size,1,none⟩) (Nat.le_refl _) _).setCell (p:=⟨w.heap.size,2,none⟩) (Nat.le_refl _) _
   have hr5:W5.heap[w.heap.size]? = some (.cells #[.int .i64 (zN r),.bool r.isSome,.nilIface] 231 (0,0)):=by
    rw[hW5]
    show (World.alloc _ _).heap[w.heap.size]? = _
    rw[zm _ _ (by simp[World.setCell];omega)]
    exact zcD HR1.out _ _ _ _ _ _
   have hm5:=HS1.out.low (H.out.size) H.out.tlt hb5
   refine leaves_cons (f:=152) (args:=#[z9 mb,ntV nt]) (by simp) (by simp[go_sem]) ?_
   refine (V0 W5 mb .returning vr s _ _ nt hm5.blk).mono ?_
   rintro e u' w'' ⟨rfl,rfl,rfl⟩
   have hrb:w.heap.size≠mb:=by omega
   refine⟨_,results_cell_row rfl _ _ w.heap.size _ _ _ _ rfl (by rw[Below.heap_setCell _ _ _ _ hrb];exact hr5) Tryz.underlying231 rfl (by kernel_rfl),?_⟩
   refine⟨by rw[HNV.out],hm5.noted nt,?_⟩
   refine KpM.noted (KpM.low ?_ hb5) _
   have hk0:KpM [mb,tb] w.heap.size w W1:=by
    rw[HW1.out]
    exact KpM.low ((KpM.refl _ _ _).noted _) ((Below.refl _ _).alloc (by simp[World.setCell]) _)
   exact hk0.trans (HK1.out.mono (by have:=HSZ1.out;omega))
 ·go_wp2_with fail
  go_region
  all_goals
   go_wp2_with fail
   obtain⟨W5,hW5⟩:∃ W5,W5=(((((((w1.setCell ⟨w.heap.size,0,none⟩ (.int .i64 0)).setCell ⟨w.heap.size,1,none⟩ (.bool false)).setCell ⟨w.heap.size,2,none⟩ .nilIface).setCell ⟨w.heap.size,0,none⟩ (.int .i64 (zN r))).setCell ⟨w.heap.size,1,none⟩ (.bool r.isSome)).setCell ⟨w.heap.size,2,none⟩ (.iface t x)).alloc (.cells #[.int .i64 (zN r),.bool r.isSome] 229)).drew:=⟨_,rfl⟩
   rw[← hW5]
   have hb5:Below w.heap.size w1 W5:=by
    rw[hW5]
    refine Below.drew (Below.alloc ?_ (by simp[World.setCell];omega) _)
    exact ((((((Below.refl _ _).setCell (p:=⟨w.heap.size,0,none⟩) (Nat.le_refl _) _).setCell (p:=⟨w.heap.size,1,none⟩) (Nat.le_refl _) _).setCell (p:=⟨w.heap.size,2,none⟩) (Nat.le_refl _) _).setCell (p:=⟨w.heap.size,0,none⟩) (Nat.le_refl _) _).setCell (p:=⟨w.heap.size,1,none⟩) (Nat.le_refl _) _).setCell (p:=⟨w.heap.size,2,none⟩) (Nat.le_refl _) _
   have hr5:W5.heap[w.heap.size]? = some (.cells #[.int .i64 (zN r),.bool r.isSome,(.iface t x)] 231 (0,0)):=by
    rw[hW5]
    show (World.alloc _ _).heap[w.heap.size]? = _
    rw[zm _ _ (by simp[World.setCell];omega)]
    exact zcD HR1.out _ _ _ _ _ _
   have hm5:=HS1.out.low (H.out.size) H.out.tlt hb5
   refine leaves_cons (f:=152) (args:=#[z9 mb,ntV nt]) (by simp) (by simp[go_sem]) ?_
   refine (V0 W5 mb .returning vr s _ _ nt hm5.blk).mono ?_
   rintro e u' w'' ⟨rfl,rfl,rfl⟩
   have hrb:w.heap.size≠mb:=by omega
   refine⟨_,results_cell_row rfl _ _ w.heap.size _ _ _ _ rfl (by rw[Below.heap_setCell _ _ _ _ hrb];exact hr5) Tryz.underlying231 rfl (by kernel_rfl),?_⟩
   refine⟨by rw[HNV.out],hm5.noted nt,?_⟩
   refine KpM.noted (KpM.low ?_ hb5) _
   have hk0:KpM [mb,tb] w.heap.size w W1:=by
    rw[HW1.out]
    exact KpM.low ((KpM.refl _ _ _).noted _) ((Below.refl _ _).alloc (by simp[World.setCell]) _)
   exact hk0.trans (HK1.out.mono (by have:=HSZ1.out;omega))
theorem Qz.lookB {w:World} {tb:Nat} {L:J3} (h:Qz w tb L) (n k:Nat) {W:World} (hb:Below w.heap.size w W) :
  (Instr.lookup 174 (.map (some tb)) (Q0 n k) true).run Tryz.prog W = .ok (.tuple #[Qb ((ZK L n k).getD none),.bool (ZK L n k).isSome]) W:=(h.same (hb.block _ h.lt)).look n k
theorem QY (w:World) (a b:Obj):Below w.heap.size w ((w.alloc a).alloc b):=(zc w a).alloc (by simp) b
theorem Qs (w:World) (a b c:Obj):Below w.heap.size w (((w.alloc a).alloc b).alloc c):=(QY w a b).alloc (by simp;omega) c
theorem zgY {wM:World} {mb tb:Nat} {N:List Nd} {rules:List Nat} {vr:Value} {s:ByteArray} (w:World) (ev:Value) (n k:Nat) (r:Out) (nt:Nt) (h:MS wM mb tb N rules vr s nt w) (L:J3) (hL:Qz w tb L) (hm:ZK L n k=some r) :
  Calls Tryz.prog 178 #[z9 mb,.int .i64 n,ev,.int .i64 k] w fun e w'=>e = .returned (Q9 r)∧MS wM mb tb N rules vr s (jn nt (Zm r)) w'∧KpM [mb,tb] w.heap.size w w':=by
 have q2:w.cell? ⟨mb,2,none⟩=some (.map (some tb)):=z8 h.blk 2
 have hl:=zd h.blk
 have c3:∀ a b c,(((w.alloc a).alloc b).alloc c).cell? ⟨mb,2,none⟩=some (.map (some tb)):=fun a b c=>by rw[(Qs w a b c).cell (p:=⟨mb,2,none⟩) hl];exact q2
 have k1:=fun a b=>hL.lookB n k (QY w a b)
 have k2:=fun a b=>hL.lookB n k (QY w a b).drew
 have k3:=fun a b c=>hL.lookB n k (Qs w a b c)
 have k4:=fun a b c=>hL.lookB n k (Qs w a b c).drew
 simp only[hm,Option.getD_some,Option.isSome_some,Q0,Qb] at k1 k2 k3 k4
 have H:=z6 h
 have hf:=QV (Zm r)
 obtain⟨nv,hnv⟩:∃ nv,nv=ntV (Zm r):=⟨_,rfl⟩
 rw[← hnv] at k1 k2 k3 k4 hf
 have HNV:=z6 hnv
 clear h hL hm hnv
 have HH:=z6 (And.intro H.out.size H.out.tlt)
 rcases hf with rfl | ⟨t,x,rfl⟩
 ·go_enter Tryz.func178,Tryz.ntmps178
  go_wp2_with fail
  go_region
  all_goals go_wp2_with fail
  all_goals
   obtain⟨X,hX⟩:∃ X,X=(((w.alloc (Obj.cells #[.int .i64 0,.bool false] 229)).alloc (Obj.cells #[.int .i64 n,.int .i64 k] 328)).alloc (Obj.cells #[.int .i64 (zN r),.bool r.isSome,.nilIface] 231)).drew:=⟨_,rfl⟩
   have hBX:Below w.heap.size w X:=by rw[hX];exact (Qs w _ _ _).drew
   have hMX:=H.out.below hBX
   have hKX:KpM [mb,tb] w.heap.size w X:=KpM.of_below hBX
   rw[← hX]
   have hnote:=KQ X mb vr s (.map (some tb)) nt (Zm r) hMX.blk
   rw[← HNV.out] at hnote
   have hx0:X.heap[w.heap.size]? = some (.cells #[.int .i64 0,.bool false] 229 (0,0)):=by
    rw[hX]
    show (World.alloc _ _).heap[w.heap.size]? = _
    rw[zm _ _ (by simp;omega),zm _ _ (by simp)];exact zk _ _
   have hx2:X.heap[w.heap.size+1+1]? = some (.cells #[.int .i64 (zN r),.bool r.isSome,.nilIface] 231 (0,0)):=by
    rw[hX]
    show (World.alloc _ _).heap[w.heap.size+1+1]? = _
    have:=zk ((w.alloc (Obj.cells #[.int .i64 0,.bool false] 229)).alloc (Obj.cells #[.int .i64 n,.int .i64 k] 328)) (Obj.cells #[.int .i64 (zN r),.bool r.isSome,.nilIface] 231)
    simpa using this
   refine hnote.mono ?_
   rintro _ w2 ⟨rfl,hw2⟩
   have hne0:w.heap.size≠mb:=by omega
   have hne2:w.heap.size+1+1≠mb:=by omega
   have y0:w2.heap[w.heap.size]? = some (.cells #[.int .i64 0,.bool false] 229 (0,0)):=by rw[hw2,Below.heap_setCell _ _ _ _ hne0];exact hx0
   have y2:w2.heap[w.heap.size+1+1]? = some (.cells #[.int .i64 (zN r),.bool r.isSome,.nilIface] 231 (0,0)):=by rw[hw2,Below.heap_setCell _ _ _ _ hne2];exact hx2
   have z0:=z8 y0
   have z2:=z8 y2
   have f0:=zi y0
   have l0:=za y0
   have l2:=za y2
   have HM2:Hid (MS wM mb tb N rules vr s (jn nt (Zm r)) w2):=by rw[hw2];exact hMX.noted _
   have HK2:Hid (KpM [mb,tb] w.heap.size w w2):=by rw[hw2];exact KpM.noted hKX _
   have HY0:=z6 y0
   clear hnote hw2 hx0 hx2 y0 y2
   go_wp2_with fail
   have hbf:Below w.heap.size w2 ((w2.setCell ⟨w.heap.size,0,none⟩ (.int .i64 (zN r))).setCell ⟨w.heap.size,1,none⟩ (.bool r.isSome)):=((Below.refl _ _).setCell (p:=⟨w.heap.size,0,none⟩) (Nat.le_refl _) _).setCell (p:=⟨w.heap.size,1,none⟩) (Nat.le_refl _) _
   refine bodyPost_ret (results_cell_row rfl _ _ w.heap.size _ _ _ _ rfl (zo (zo HY0.out _) _) Tryz.underlying229 rfl (by kernel_rfl)) rfl ?_
   exact⟨rfl,HM2.out.low HH.out.1 HH.out.2 hbf,HK2.out.low hbf⟩
 ·go_enter Tryz.func178,Tryz.ntmps178
  go_wp2_with fail
  go_region
  all_goals go_wp2_with fail
  all_goals
   obtain⟨X,hX⟩:∃ X,X=(((w.alloc (Obj.cells #[.int .i64 0,.bool false] 229)).alloc (Obj.cells #[.int .i64 n,.int .i64 k] 328)).alloc (Obj.cells #[.int .i64 (zN r),.bool r.isSome,(.iface t x)] 231)).drew:=⟨_,rfl⟩
   have hBX:Below w.heap.size w X:=by rw[hX];exact (Qs w _ _ _).drew
   have hMX:=H.out.below hBX
   have hKX:KpM [mb,tb] w.heap.size w X:=KpM.of_below hBX
   rw[← hX]
   have hnote:=KQ X mb vr s (.map (some tb)) nt (Zm r) hMX.blk
   rw[← HNV.out] at hnote
   have hx0:X.heap[w.heap.size]? = some (.cells #[.int .i64 0,.bool false] 229 (0,0)):=by
    rw[hX]
    show (World.alloc _ _).heap[w.heap.size]? = _
    rw[zm _ _ (by simp;omega),zm _ _ (by simp)];exact zk _ _
   have hx2:X.heap[w.heap.size+1+1]? = some (.cells #[.int .i64 (zN r),.bool r.isSome,(.iface t x)] 231 (0,0)):=by
    rw[hX]
    show (World.alloc _ _).heap[w.heap.size+1+1]? = _
    have:=zk ((w.alloc (Obj.cells #[.int .i64 0,.bool false] 229)).alloc (Obj.cells #[.int .i64 n,.int .i64 k] 328)) (Obj.cells #[.int .i64 (zN r),.bool r.isSome,(.iface t x)] 231)
    simpa using this
   refine hnote.mono ?_
   rintro _ w2 ⟨rfl,hw2⟩
   have hne0:w.heap.size≠mb:=by omega
   have hne2:w.heap.size+1+1≠mb:=by omega
   have y0:w2.heap[w.heap.size]? = some (.cells #[.int .i64 0,.bool false] 229 (0,0)):=by rw[hw2,Below.heap_setCell _ _ _ _ hne0];exact hx0
   have y2:w2.heap[w.heap.size+1+1]? = some (.cells #[.int .i64 (zN r),.bool r.isSome,(.iface t x)] 231 (0,0)):=by rw[hw2,Below.heap_setCell _ _ _ _ hne2];exact hx2
   have z0:=z8 y0
   have z2:=z8 y2
   have f0:=zi y0
   have l0:=za y0
   have l2:=za y2
   have HM2:Hid (MS wM mb tb N rules vr s (jn nt (Zm r)) w2):=by rw[hw2];exact hMX.noted _
   have HK2:Hid (KpM [mb,tb] w.heap.size w w2):=by rw[hw2];exact KpM.noted hKX _
   have HY0:=z6 y0
   clear hnote hw2 hx0 hx2 y0 y2
   go_wp2_with fail
   have hbf:Below w.heap.size w2 ((w2.setCell ⟨w.heap.size,0,none⟩ (.int .i64 (zN r))).setCell ⟨w.heap.size,1,none⟩ (.bool r.isSome)):=((Below.refl _ _).setCell (p:=⟨w.heap.size,0,none⟩) (Nat.le_refl _) _).setCell (p:=⟨w.heap.size,1,none⟩) (Nat.le_refl _) _
   refine bodyPost_ret (results_cell_row rfl _ _ w.heap.size _ _ _ _ rfl (zo (zo HY0.out _) _) Tryz.underlying229 rfl (by kernel_rfl)) rfl ?_
   exact⟨rfl,HM2.out.low HH.out.1 HH.out.2 hbf,HK2.out.low hbf⟩
theorem zbR:∀ (L:J3) {n k:Nat} {r:Out},ZK L n k=some r→∃ h:L.findIdx (fun p=>p.1.1 == n && p.1.2 == k)<L.length,L[L.findIdx (fun p=>p.1.1 == n && p.1.2 == k)]=((n,k),r)
 | [],_,_,_,h=>by simp[ZK] at h
 | p::L,n,k,r,h=>by
  unfold ZK at h
  rw[List.find?_cons] at h
  cases hb:(p.1.1 == n && p.1.2 == k) with
  | true=>
   rw[hb] at h
   simp only[Option.map_some,Option.some.injEq] at h
   have hi:(p::L).findIdx (fun p=>p.1.1 == n && p.1.2 == k)=0:=by rw[List.findIdx_cons,hb];rfl
   refine⟨by rw[hi];simp,?_⟩
   simp only[hi,List.getElem_cons_zero]
   simp only[Bool.and_eq_true,beq_iff_eq] at hb
   obtain⟨⟨a,b⟩,c⟩:=p
   simp only[] at hb h
   rw[hb.1,hb.2,h]
  | false=>
   rw[hb] at h
   obtain⟨h1,h2⟩:=zbR L (n:=n) (k:=k) (r:=r) h
   have hi:(p::L).findIdx (fun p=>p.1.1 == n && p.1.2 == k)=L.findIdx (fun p=>p.1.1 == n && p.1.2 == k)+1:=by rw[List.findIdx_cons,hb];rfl
   refine⟨by rw[hi,List.length_cons];exact Nat.succ_lt_succ h1,?_⟩
   simp only[hi,List.getElem_cons_succ]
   exact h2
theorem Qz.again {w:World} {tb:Nat} {L:J3} (h:Qz w tb L) (n k:Nat) (r:Out) (hn:ZK L n k=some r) :
  ∃ o,(Instr.mapUpdate 174 (.map (some tb)) (Q0 n k) (Qb r)).run Tryz.prog w = .ok () (JU w tb o)∧Qz (JU w tb o) tb L:=by
 obtain⟨es,clock,hb,hl⟩:=h
 have hck:=qL false (n:Int) (k:Int) w
 have hfd:=qW n k w es.toList L hl
 rw[hn] at hfd
 simp only[] at hfd
 obtain⟨hi,hg⟩:=zbR L hn
 generalize hix:L.findIdx (fun p=>p.1.1 == n && p.1.2 == k)=i at *
 have hlen:es.toList.length=L.length:=by
  have:=congrArg List.length hl
  simpa [Yb] using this
 have hie:i<es.size:=by rw[← Array.length_toList];omega
 have hge:(es[i].key,es[i].val)=(Q0 n k,Qb r):=by
  have h1:(es.toList.map (fun x=>(x.key,x.val)))[i]? = (Yb L)[i]? := by rw[hl]
  rw[List.getElem?_map,List.getElem?_eq_getElem (by omega)] at h1
  unfold Yb at h1
  rw[List.getElem?_map,List.getElem?_eq_getElem hi,hg] at h1
  simpa using h1
 have hkey:es[i].key=Q0 n k:=(Prod.mk.injEq _ _ _ _ ▸ hge).1
 have hval:es[i].val=Qb r:=(Prod.mk.injEq _ _ _ _ ▸ hge).2
 have hsb:Instr.sameBits 10000 (Q0 n k) (Q0 n k)=true:=by
  simp[Instr.sameBits]
 have hks:((es[i]?).map (·.key)).getD (Q0 n k)=Q0 n k:=by
  rw[Array.getElem?_eq_getElem hie];simp[hkey]
 refine⟨.map (es.modify i fun e=>{ e with key:=Q0 n k,val:=Qb r }) clock,?_,es.modify i (fun e=>{ e with key:=Q0 n k,val:=Qb r }),clock,?_,?_⟩
 ·have hst:(Instr.keyThatStays (((es[i]?).map (·.key)).getD (Q0 n k)) (Q0 n k)).run Tryz.prog w = .ok (Q0 n k) w:=by
   rw[hks];simp[Instr.keyThatStays,hsb]
  simp[Instr.mapUpdate,run_underlying Tryz.underlying174,MapKept.run_getObj_map hb,hck,hfd,Result.andThen,MapKept.run_setObj_map _ hb,hst]
 ·have hlt:=zd hb
  show (w.heap.setIfInBounds tb _)[tb]? = _
  rw[Array.getElem?_setIfInBounds_self_of_lt hlt]
 ·rw[← hl]
  apply List.ext_getElem?
  intro j
  rw[List.getElem?_map,List.getElem?_map,Array.getElem?_toList,Array.getElem?_toList,Array.getElem?_modify]
  by_cases hj:i=j
  ·subst hj
   rw[if_pos rfl,Array.getElem?_eq_getElem hie]
   simp[hkey,hval]
  ·rw[if_neg hj]
end Go.Proofs.YtiganlkabilblaaGreatDoor
