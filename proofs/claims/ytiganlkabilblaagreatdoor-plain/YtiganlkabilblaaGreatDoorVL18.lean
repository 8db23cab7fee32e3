import Derived.Test.YtiganlkabilblaaGreatDoorVL17
set_option linter.all false
set_option maxHeartbeats 64000000
set_option maxRecDepth 100000
namespace Go.Proofs.YtiganlkabilblaaGreatDoor
open Go.RowKit Thk
attribute [local go_sem ↓] Go.wp_at_zero Go.wp_at_succ
theorem UR (e:Int) (b:Bool) (W:World):(Instr.field 229 (.agg #[.int .i64 e,.bool b]) 1).run Tryz.prog W = .ok (.bool b) W:=by kernel_rfl
def zb6 (Q:Exit→Act→World→Prop):Exit→Act→World→Prop
 | .normal,a,w=>Q .normal a w
 | _,_,_=>False
theorem Yj {P:Program} {c:Code} {Q:Exit→Act→World→Prop} {a:Act} {w:World} (h:c.wp P (zb6 Q) a w):c.wp P Q a w:=
 Code.wp_mono (fun e a w h=>by cases e<;>first | exact h | exact h.elim) h
theorem Yi {Q:Exit→Act→World→Prop} {a:Act} {w:World} (h:Q .normal a w):zb6 Q .normal a w:=h
theorem zfj {wM:World} {mb tb:Nat} {N:List Nd} {bx:List (Nat × Nat × Nat)} {rules:List Nat} {vr:Value} {s:ByteArray} (M:Mde wM mb N bx rules vr) {f:Nat} (hC:JE wM mb tb N bx rules vr s f) (j bm be bw:Nat) (wd:Bool) (hbm:wM.heap[bm]? = some (zh (z9 mb) 113)) (hb:wM.heap[be]? = some (zh (clV bx j) 226)) (hbw:wM.heap[bw]? = some (zh (.bool wd) 4)) (k:Nat) (o:Out) (hv:evN N rules s.data.toList f j k=some o) (hk:k≤s.size) (w:World) (h:MS wM mb tb N rules vr s .nil w) :
  Calls Tryz.prog 202 #[.int .i64 k,z9 bm,z9 be,z9 bw] w (Ye wM mb tb N rules vr s .nil (Ja k wd o) w):=by
 have p1:=h.box M hb
 have q1:=z8 p1
 have l1:=za p1
 have p2:=h.box M hbm
 have q2:=z8 p2
 have l2:=za p2
 have p4:=h.box M hbw
 have q4:=z8 p4
 have l4:=za p4
 have q3:w.cell? ⟨mb,3,none⟩=some .nilIface:=z8 h.blk 3
 have l3:=zd h.blk
 have n4:=M.ne hbw
 have n4t:bw≠tb:=fun e=>by have:=zd hbw;have:=h.tge;omega
 have HH:=z6 (And.intro h.size (And.intro h.tlt h.mlt))
 have HC:Hid (∀ W,Below w.heap.size w W→W.heap[w.heap.size]? = some ZR→Calls Tryz.prog 177 #[.int .i64 k,z9 (bx.getD j (0,0,0)).1,z9 (bx.getD j (0,0,0)).2.1,z9 (bx.getD j (0,0,0)).2.2] W fun e w'=>e = .returned (Q9 o)∧w'.cell? ⟨bw,0,none⟩=some (.bool wd)∧bw<w'.heap.size∧Hid (LpC wM mb tb N rules vr s w (Zm o) ZR w')):=z6 (fun W hW h0=>by
  refine (hC.at (nt:=.nil) hv hk (h.below hW) (KpM.of_below hW) hW.size).mono ?_
  rintro e w' ⟨h1,h2,h3,h4,h5⟩
  have hlb:=zd p4
  have hs:=hW.size
  have hx:w'.heap[bw]? = some (zh (.bool wd) 4):=by rw[h5 _ (by omega) n4 n4t,hW.block _ hlb];exact p4
  refine⟨h1,z8 hx 0,zd hx,z6 ⟨by rwa [VI] at h2,h3,?_⟩⟩
  rw[h5 _ (zd h0) (by have:=HH.out;omega) (by have:=HH.out;omega)];exact h0)
 simp only[clV,zT] at q1
 clear h hC hb M p1 hv p2 hbm hbw p4
 generalize (bx.getD j (0,0,0)).1=x1 at *
 generalize (bx.getD j (0,0,0)).2.1=x2 at *
 generalize (bx.getD j (0,0,0)).2.2=x3 at *
 cases o with
 | none=>
  cases wd with
  | false=>
   have ho:Q9 (none) = .agg #[.int .i64 0,.bool false]:=rfl
   simp only[ho] at HC
   clear ho
   have hfd:=UR
   go_enter_defers Tryz.func202,Tryz.ntmps202
   go_wp2_with fail
   refine Yj ?_
   go_region
   all_goals refine Yi ?_
   all_goals go_wp2_with fail
   all_goals refine Yj ?_
   all_goals
    go_region_with (go_at_call 177;go_loud (refine (HC.out _ (by repeat (first | exact Below.refl _ _ | refine Below.drew ?_ | refine Below.alloc ?_ (by simp) _)) (by exact zk w _)).mono ?_;rintro _ w1 ⟨rfl,hc,hlw,HL⟩))
   all_goals
    have z0:=z8 HL.out.blk
    have f0:=zi HL.out.blk
    have l0:=za HL.out.blk
    refine Yi ?_
    go_wp2_with fail
    obtain⟨X,hX⟩:∃ X,X=((w1.setCell ⟨w.heap.size,0,none⟩ (.int .i64 k)).setCell ⟨w.heap.size,1,none⟩ (.bool true)):=⟨_,rfl⟩
    have hbf:Below w.heap.size w1 X:=by rw[hX];exact QT _ _ _ _
    have x0:X.heap[w.heap.size]? = some (.cells #[.int .i64 k,.bool true] 229 (0,0)):=by rw[hX];exact Jw HL.out.blk _ _
    rw[← hX]
    have xm:=HL.out.ms.low HH.out.1 HH.out.2.1 hbf
    refine leaves_cons (f:=152) (args:=#[z9 mb,ntV .nil]) (by simp) (by simp[go_sem,ntV]) ?_
    refine (V0 X mb .returning vr s _ _ .nil xm.blk).mono ?_
    rintro e u' w'' ⟨rfl,rfl,rfl⟩
    have hrb:w.heap.size≠mb:=by have:=HH.out;omega
    refine⟨_,results_cell_row rfl _ _ w.heap.size _ _ _ _ rfl (by rw[Below.heap_setCell _ _ _ _ hrb];exact x0) Tryz.underlying229 rfl (by kernel_rfl),?_⟩
    exact⟨rfl,xm.noted .nil,(HL.out.kp.low hbf).noted _⟩
  | true=>
   have ho:Q9 (none) = .agg #[.int .i64 0,.bool false]:=rfl
   simp only[ho] at HC
   clear ho
   have hfd:=UR
   go_enter_defers Tryz.func202,Tryz.ntmps202
   go_wp2_with fail
   refine Yj ?_
   go_region
   all_goals refine Yi ?_
   all_goals go_wp2_with fail
   all_goals refine Yj ?_
   all_goals
    go_region_with (go_at_call 177;go_loud (refine (HC.out _ (by repeat (first | exact Below.refl _ _ | refine Below.drew ?_ | refine Below.alloc ?_ (by simp) _)) (by exact zk w _)).mono ?_;rintro _ w1 ⟨rfl,hc,hlw,HL⟩))
   all_goals
    have z0:=z8 HL.out.blk
    have f0:=zi HL.out.blk
    have l0:=za HL.out.blk
    refine Yi ?_
    go_wp2_with fail
    obtain⟨X,hX⟩:∃ X,X=((w1.setCell ⟨w.heap.size,0,none⟩ (.int .i64 0)).setCell ⟨w.heap.size,1,none⟩ (.bool false)):=⟨_,rfl⟩
    have hbf:Below w.heap.size w1 X:=by rw[hX];exact QT _ _ _ _
    have x0:X.heap[w.heap.size]? = some (.cells #[.int .i64 0,.bool false] 229 (0,0)):=by rw[hX];exact Jw HL.out.blk _ _
    rw[← hX]
    have xm:=HL.out.ms.low HH.out.1 HH.out.2.1 hbf
    refine leaves_cons (f:=152) (args:=#[z9 mb,ntV .nil]) (by simp) (by simp[go_sem,ntV]) ?_
    refine (V0 X mb .returning vr s _ _ .nil xm.blk).mono ?_
    rintro e u' w'' ⟨rfl,rfl,rfl⟩
    have hrb:w.heap.size≠mb:=by have:=HH.out;omega
    refine⟨_,results_cell_row rfl _ _ w.heap.size _ _ _ _ rfl (by rw[Below.heap_setCell _ _ _ _ hrb];exact x0) Tryz.underlying229 rfl (by kernel_rfl),?_⟩
    exact⟨rfl,xm.noted .nil,(HL.out.kp.low hbf).noted _⟩
 | some x=>
  cases wd with
  | false=>
   have ho:Q9 (some x) = .agg #[.int .i64 x.1,.bool true]:=rfl
   simp only[ho] at HC
   clear ho
   have hfd:=UR
   go_enter_defers Tryz.func202,Tryz.ntmps202
   go_wp2_with fail
   refine Yj ?_
   go_region
   all_goals refine Yi ?_
   all_goals go_wp2_with fail
   all_goals refine Yj ?_
   all_goals
    go_region_with (go_at_call 177;go_loud (refine (HC.out _ (by repeat (first | exact Below.refl _ _ | refine Below.drew ?_ | refine Below.alloc ?_ (by simp) _)) (by exact zk w _)).mono ?_;rintro _ w1 ⟨rfl,hc,hlw,HL⟩))
   all_goals
    have z0:=z8 HL.out.blk
    have f0:=zi HL.out.blk
    have l0:=za HL.out.blk
    refine Yi ?_
    go_wp2_with fail
    obtain⟨X,hX⟩:∃ X,X=((w1.setCell ⟨w.heap.size,0,none⟩ (.int .i64 0)).setCell ⟨w.heap.size,1,none⟩ (.bool false)):=⟨_,rfl⟩
    have hbf:Below w.heap.size w1 X:=by rw[hX];exact QT _ _ _ _
    have x0:X.heap[w.heap.size]? = some (.cells #[.int .i64 0,.bool false] 229 (0,0)):=by rw[hX];exact Jw HL.out.blk _ _
    rw[← hX]
    have xm:=HL.out.ms.low HH.out.1 HH.out.2.1 hbf
    refine leaves_cons (f:=152) (args:=#[z9 mb,ntV .nil]) (by simp) (by simp[go_sem,ntV]) ?_
    refine (V0 X mb .returning vr s _ _ .nil xm.blk).mono ?_
    rintro e u' w'' ⟨rfl,rfl,rfl⟩
    have hrb:w.heap.size≠mb:=by have:=HH.out;omega
    refine⟨_,results_cell_row rfl _ _ w.heap.size _ _ _ _ rfl (by rw[Below.heap_setCell _ _ _ _ hrb];exact x0) Tryz.underlying229 rfl (by kernel_rfl),?_⟩
    exact⟨rfl,xm.noted .nil,(HL.out.kp.low hbf).noted _⟩
  | true=>
   have ho:Q9 (some x) = .agg #[.int .i64 x.1,.bool true]:=rfl
   simp only[ho] at HC
   clear ho
   have hfd:=UR
   go_enter_defers Tryz.func202,Tryz.ntmps202
   go_wp2_with fail
   refine Yj ?_
   go_region
   all_goals refine Yi ?_
   all_goals go_wp2_with fail
   all_goals refine Yj ?_
   all_goals
    go_region_with (go_at_call 177;go_loud (refine (HC.out _ (by repeat (first | exact Below.refl _ _ | refine Below.drew ?_ | refine Below.alloc ?_ (by simp) _)) (by exact zk w _)).mono ?_;rintro _ w1 ⟨rfl,hc,hlw,HL⟩))
   all_goals
    have z0:=z8 HL.out.blk
    have f0:=zi HL.out.blk
    have l0:=za HL.out.blk
    refine Yi ?_
    go_wp2_with fail
    obtain⟨X,hX⟩:∃ X,X=((w1.setCell ⟨w.heap.size,0,none⟩ (.int .i64 k)).setCell ⟨w.heap.size,1,none⟩ (.bool true)):=⟨_,rfl⟩
    have hbf:Below w.heap.size w1 X:=by rw[hX];exact QT _ _ _ _
    have x0:X.heap[w.heap.size]? = some (.cells #[.int .i64 k,.bool true] 229 (0,0)):=by rw[hX];exact Jw HL.out.blk _ _
    rw[← hX]
    have xm:=HL.out.ms.low HH.out.1 HH.out.2.1 hbf
    refine leaves_cons (f:=152) (args:=#[z9 mb,ntV .nil]) (by simp) (by simp[go_sem,ntV]) ?_
    refine (V0 X mb .returning vr s _ _ .nil xm.blk).mono ?_
    rintro e u' w'' ⟨rfl,rfl,rfl⟩
    have hrb:w.heap.size≠mb:=by have:=HH.out;omega
    refine⟨_,results_cell_row rfl _ _ w.heap.size _ _ _ _ rfl (by rw[Below.heap_setCell _ _ _ _ hrb];exact x0) Tryz.underlying229 rfl (by kernel_rfl),?_⟩
    exact⟨rfl,xm.noted .nil,(HL.out.kp.low hbf).noted _⟩
end Go.Proofs.YtiganlkabilblaaGreatDoor
