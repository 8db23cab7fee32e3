import Derived.Test.YtiganlkabilblaaGreatDoorV21
set_option linter.all false
set_option maxHeartbeats 64000000
set_option maxRecDepth 100000
namespace Go.Proofs.YtiganlkabilblaaGreatDoor
open Go.RowKit Thk
attribute [local go_sem ↓] Go.wp_at_zero Go.wp_at_succ
theorem okField (e:Int) (b:Bool) (W:World):(Instr.field 229 (.agg #[.int .i64 e,.bool b]) 1).run Tryz.prog W = .ok (.bool b) W:=by kernel_rfl
def calm (Q:Exit→Act→World→Prop):Exit→Act→World→Prop
 | .normal,a,w=>Q .normal a w
 | _,_,_=>False
theorem zbF {P:Program} {c:Code} {Q:Exit→Act→World→Prop} {a:Act} {w:World} (h:c.wp P (calm Q) a w):c.wp P Q a w:=
 Code.wp_mono (fun e a w h=>by cases e<;>first | exact h | exact h.elim) h
theorem zbh {Q:Exit→Act→World→Prop} {a:Act} {w:World} (h:Q .normal a w):calm Q .normal a w:=h
theorem in_ahead {wM:World} {mb tb:Nat} {N:List Nd} {bx:List (Nat × Nat × Nat)} {rules:List Nat} {vr:Value} {s:ByteArray} (M:Mde wM mb N bx rules vr) {f:Nat} (hC:CloC wM mb tb N bx rules vr s f) (j bm be bw:Nat) (wd:Bool) (hbm:wM.heap[bm]? = some (boxO (ptrV mb) 113)) (hb:wM.heap[be]? = some (boxO (clV bx j) 226)) (hbw:wM.heap[bw]? = some (boxO (.bool wd) 4)) (k:Nat) (o:Out) (hv:evN N rules s.data.toList f j k=some o) (hk:k≤s.size) (w:World) (h:MS wM mb tb N rules vr s .nil w) :
  Calls Tryz.prog 202 #[.int .i64 k,ptrV bm,ptrV be,ptrV bw] w (PostM wM mb tb N rules vr s .nil (zb8 k wd o) w):=by
 have p1:=h.box M hb
 have q1:=za0 p1
 have l1:=za3 p1
 have p2:=h.box M hbm
 have q2:=za0 p2
 have l2:=za3 p2
 have p4:=h.box M hbw
 have q4:=za0 p4
 have l4:=za3 p4
 have q3:w.cell? ⟨mb,3,none⟩=some .nilIface:=za0 h.blk 3
 have l3:=za7 h.blk
 have n4:=M.ne hbw
 have n4t:bw≠tb:=fun e=>by have:=za7 hbw;have:=h.tge;omega
 have HH:=hideP (And.intro h.size (And.intro h.tlt h.mlt))
 have HC:Hid (∀ W,Below w.heap.size w W→W.heap[w.heap.size]? = some outC→Calls Tryz.prog 177 #[.int .i64 k,ptrV (bx.getD j (0,0,0)).1,ptrV (bx.getD j (0,0,0)).2.1,ptrV (bx.getD j (0,0,0)).2.2] W fun e w'=>e = .returned (outV o)∧w'.cell? ⟨bw,0,none⟩=some (.bool wd)∧bw<w'.heap.size∧Hid (LpC wM mb tb N rules vr s w (noteO o) outC w')):=hideP (fun W hW h0=>by
  refine (hC.at (nt:=.nil) hv hk (h.below hW) (KpM.of_below hW) hW.size).mono ?_
  rintro e w' ⟨h1,h2,h3,h4,h5⟩
  have hlb:=za7 p4
  have hs:=hW.size
  have hx:w'.heap[bw]? = some (boxO (.bool wd) 4):=by rw[h5 _ (by omega) n4 n4t,hW.block _ hlb];exact p4
  refine⟨h1,za0 hx 0,za7 hx,hideP ⟨by rwa [nil_jn] at h2,h3,?_⟩⟩
  rw[h5 _ (za7 h0) (by have:=HH.out;omega) (by have:=HH.out;omega)];exact h0)
 simp only[clV,cloV] at q1
 clear h hC hb M p1 hv p2 hbm hbw p4
 generalize (bx.getD j (0,0,0)).1=x1 at *
 generalize (bx.getD j (0,0,0)).2.1=x2 at *
 generalize (bx.getD j (0,0,0)).2.2=x3 at *
 cases o with
 | none=>
  cases wd with
  | false=>
   have ho:outV (none) = .agg #[.int .i64 0,.bool false]:=rfl
   simp only[ho] at HC
   clear ho
   have hfd:=okField
   go_enter_defers Tryz.func202,Tryz.ntmps202
   go_wp2_with fail
   refine zbF ?_
   go_region
   all_goals refine zbh ?_
   all_goals go_wp2_with fail
   all_goals refine zbF ?_
   all_goals
    go_region_with (go_at_call 177;go_loud (refine (HC.out _ (by repeat (first | exact Below.refl _ _ | refine Below.drew ?_ | refine Below.alloc ?_ (by simp) _)) (by exact za4 w _)).mono ?_;rintro _ w1 ⟨rfl,hc,hlw,HL⟩))
   all_goals
    have z0:=za0 HL.out.blk
    have f0:=za2 HL.out.blk
    have l0:=za3 HL.out.blk
    refine zbh ?_
    go_wp2_with fail
    obtain⟨X,hX⟩:∃ X,X=((w1.setCell ⟨w.heap.size,0,none⟩ (.int .i64 k)).setCell ⟨w.heap.size,1,none⟩ (.bool true)):=⟨_,rfl⟩
    have hbf:Below w.heap.size w1 X:=by rw[hX];exact zba _ _ _ _
    have x0:X.heap[w.heap.size]? = some (.cells #[.int .i64 k,.bool true] 229 (0,0)):=by rw[hX];exact cell2 HL.out.blk _ _
    rw[← hX]
    have xm:=HL.out.ms.low HH.out.1 HH.out.2.1 hbf
    refine leaves_cons (f:=152) (args:=#[ptrV mb,ntV .nil]) (by simp) (by simp[go_sem,ntV]) ?_
    refine (zbW X mb .returning vr s _ _ .nil xm.blk).mono ?_
    rintro e u' w'' ⟨rfl,rfl,rfl⟩
    have hrb:w.heap.size≠mb:=by have:=HH.out;omega
    refine⟨_,results_cell_row rfl _ _ w.heap.size _ _ _ _ rfl (by rw[Below.heap_setCell _ _ _ _ hrb];exact x0) Tryz.underlying229 rfl (by kernel_rfl),?_⟩
    exact⟨rfl,xm.noted .nil,(HL.out.kp.low hbf).noted _⟩
  | true=>
   have ho:outV (none) = .agg #[.int .i64 0,.bool false]:=rfl
   simp only[ho] at HC
   clear ho
   have hfd:=okField
   go_enter_defers Tryz.func202,Tryz.ntmps202
   go_wp2_with fail
   refine zbF ?_
   go_region
   all_goals refine zbh ?_
   all_goals go_wp2_with fail
   all_goals refine zbF ?_
   all_goals
    go_region_with (go_at_call 177;go_loud (refine (HC.out _ (by repeat (first | exact Below.refl _ _ | refine Below.drew ?_ | refine Below.alloc ?_ (by simp) _)) (by exact za4 w _)).mono ?_;rintro _ w1 ⟨rfl,hc,hlw,HL⟩))
   all_goals
    have z0:=za0 HL.out.blk
    have f0:=za2 HL.out.blk
    have l0:=za3 HL.out.blk
    refine zbh ?_
    go_wp2_with fail
    obtain⟨X,hX⟩:∃ X,X=((w1.setCell ⟨w.heap.size,0,none⟩ (.int .i64 0)).setCell ⟨w.heap.size,1,none⟩ (.bool false)):=⟨_,rfl⟩
    have hbf:Below w.heap.size w1 X:=by rw[hX];exact zba _ _ _ _
    have x0:X.heap[w.heap.size]? = some (.cells #[.int .i64 0,.bool false] 229 (0,0)):=by rw[hX];exact cell2 HL.out.blk _ _
    rw[← hX]
    have xm:=HL.out.ms.low HH.out.1 HH.out.2.1 hbf
    refine leaves_cons (f:=152) (args:=#[ptrV mb,ntV .nil]) (by simp) (by simp[go_sem,ntV]) ?_
    refine (zbW X mb .returning vr s _ _ .nil xm.blk).mono ?_
    rintro e u' w'' ⟨rfl,rfl,rfl⟩
    have hrb:w.heap.size≠mb:=by have:=HH.out;omega
    refine⟨_,results_cell_row rfl _ _ w.heap.size _ _ _ _ rfl (by rw[Below.heap_setCell _ _ _ _ hrb];exact x0) Tryz.underlying229 rfl (by kernel_rfl),?_⟩
    exact⟨rfl,xm.noted .nil,(HL.out.kp.low hbf).noted _⟩
 | some x=>
  cases wd with
  | false=>
   have ho:outV (some x) = .agg #[.int .i64 x.1,.bool true]:=rfl
   simp only[ho] at HC
   clear ho
   have hfd:=okField
   go_enter_defers Tryz.func202,Tryz.ntmps202
   go_wp2_with fail
   refine zbF ?_
   go_region
   all_goals refine zbh ?_
   all_goals go_wp2_with fail
   all_goals refine zbF ?_
   all_goals
    go_region_with (go_at_call 177;go_loud (refine (HC.out _ (by repeat (first | exact Below.refl _ _ | refine Below.drew ?_ | refine Below.alloc ?_ (by simp) _)) (by exact za4 w _)).mono ?_;rintro _ w1 ⟨rfl,hc,hlw,HL⟩))
   all_goals
    have z0:=za0 HL.out.blk
    have f0:=za2 HL.out.blk
    have l0:=za3 HL.out.blk
    refine zbh ?_
    go_wp2_with fail
    obtain⟨X,hX⟩:∃ X,X=((w1.setCell ⟨w.heap.size,0,none⟩ (.int .i64 0)).setCell ⟨w.heap.size,1,none⟩ (.bool false)):=⟨_,rfl⟩
    have hbf:Below w.heap.size w1 X:=by rw[hX];exact zba _ _ _ _
    have x0:X.heap[w.heap.size]? = some (.cells #[.int .i64 0,.bool false] 229 (0,0)):=by rw[hX];exact cell2 HL.out.blk _ _
    rw[← hX]
    have xm:=HL.out.ms.low HH.out.1 HH.out.2.1 hbf
    refine leaves_cons (f:=152) (args:=#[ptrV mb,ntV .nil]) (by simp) (by simp[go_sem,ntV]) ?_
    refine (zbW X mb .returning vr s _ _ .nil xm.blk).mono ?_
    rintro e u' w'' ⟨rfl,rfl,rfl⟩
    have hrb:w.heap.size≠mb:=by have:=HH.out;omega
    refine⟨_,results_cell_row rfl _ _ w.heap.size _ _ _ _ rfl (by rw[Below.heap_setCell _ _ _ _ hrb];exact x0) Tryz.underlying229 rfl (by kernel_rfl),?_⟩
    exact⟨rfl,xm.noted .nil,(HL.out.kp.low hbf).noted _⟩
  | true=>
   have ho:outV (some x) = .agg #[.int .i64 x.1,.bool true]:=rfl
   simp only[ho] at HC
   clear ho
   have hfd:=okField
   go_enter_defers Tryz.func202,Tryz.ntmps202
   go_wp2_with fail
   refine zbF ?_
   go_region
   all_goals refine zbh ?_
   all_goals go_wp2_with fail
   all_goals refine zbF ?_
   all_goals
    go_region_with (go_at_call 177;go_loud (refine (HC.out _ (by repeat (first | exact Below.refl _ _ | refine Below.drew ?_ | refine Below.alloc ?_ (by simp) _)) (by exact za4 w _)).mono ?_;rintro _ w1 ⟨rfl,hc,hlw,HL⟩))
   all_goals
    have z0:=za0 HL.out.blk
    have f0:=za2 HL.out.blk
    have l0:=za3 HL.out.blk
    refine zbh ?_
    go_wp2_with fail
    obtain⟨X,hX⟩:∃ X,X=((w1.setCell ⟨w.heap.size,0,none⟩ (.int .i64 k)).setCell ⟨w.heap.size,1,none⟩ (.bool true)):=⟨_,rfl⟩
    have hbf:Below w.heap.size w1 X:=by rw[hX];exact zba _ _ _ _
    have x0:X.heap[w.heap.size]? = some (.cells #[.int .i64 k,.bool true] 229 (0,0)):=by rw[hX];exact cell2 HL.out.blk _ _
    rw[← hX]
    have xm:=HL.out.ms.low HH.out.1 HH.out.2.1 hbf
    refine leaves_cons (f:=152) (args:=#[ptrV mb,ntV .nil]) (by simp) (by simp[go_sem,ntV]) ?_
    refine (zbW X mb .returning vr s _ _ .nil xm.blk).mono ?_
    rintro e u' w'' ⟨rfl,rfl,rfl⟩
    have hrb:w.heap.size≠mb:=by have:=HH.out;omega
    refine⟨_,results_cell_row rfl _ _ w.heap.size _ _ _ _ rfl (by rw[Below.heap_setCell _ _ _ _ hrb];exact x0) Tryz.underlying229 rfl (by kernel_rfl),?_⟩
    exact⟨rfl,xm.noted .nil,(HL.out.kp.low hbf).noted _⟩
end Go.Proofs.YtiganlkabilblaaGreatDoor
