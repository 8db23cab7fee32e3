import Derived.Test.YtiganlkabilblaaGreatDoorV19
set_option linter.all false
set_option maxHeartbeats 64000000
set_option maxRecDepth 100000
namespace Go.Proofs.YtiganlkabilblaaGreatDoor
open Tryz
open Tryz renaming prog->P
open Option renaming some->S,none->N
open Value renaming int->I
open IntKind renaming i64->J
section
open Go.RowKit
attribute [local go_sem ↓] Go.wp_at_zero Go.wp_at_succ
theorem UR(e:Int)(b:Bool)(W:World):(Instr.field 229 (.agg #[I J e,.bool b]) 1).run P W=.ok (.bool b) W:=by kernel_rfl
def zb6(Q:Exit->Act->World->Prop):Exit->Act->World->Prop
 | .normal,a,w=>Q .normal a w
 |_,_,_=>False
theorem Yj{P:Program}{c:Code}{Q:Exit->Act->World->Prop}{a:Act}{w:World}(h:c.wp P (zb6 Q) a w):c.wp P Q a w:=Code.wp_mono (λe a w h=>by cases e<;>first|exact h|exact h.elim) h
theorem Yi{Q:Exit->Act->World->Prop}{a:Act}{w:World}(h:Q .normal a w):zb6 Q .normal a w:=h
theorem zfj{r:World}{b D:Nat}{v:List Nd}{n:List (Nat×Nat×Nat)}{rules:List Nat}{p:Value}{s:ByteArray}(M:Mde r b v n rules p){a0:Nat}(hC:JE r b D v n rules p s a0)(j bm be y:Nat)(z:Bool)(a1:r.heap[bm]?=S (zh (z9 b) 113))(hb:r.heap[be]?=S (zh (clV n j) 226))(F:r.heap[y]?=S (zh (.bool z) 4))(k:Nat)(o:Out)(hv:evN v rules s.data.toList a0 j k=S o)(hk:k<=s.size)(w:World)(h:MS r b D v rules p s .nil w):Calls P 202 #[I J k,z9 bm,z9 be,z9 y] w (Ye r b D v rules p s .nil (Ja k z o) w):=by
 have R:=h.box M hb;have q1:=z8 R;have l1:=za R;have U:=h.box M a1;have q2:=z8 U;have l2:=za U;have B:=h.box M F;have q4:=z8 B;have l4:=za B;have q3:w.cell? ⟨b,3,N⟩=S .nilIface:=z8 h.blk 3;have l3:=zd h.blk;have n4:=M.ne F;have a3:y≠D:=λe=>by have:=zd F;have:=h.tge;omega
 have d:=z6 (And.intro h.size (And.intro h.tlt h.mlt));have q:Hid (∀W,Below w.heap.size w W->W.heap[w.heap.size]?=S ZR->Calls P 177 #[I J k,z9 (n.getD j (0,0,0)).1,z9 (n.getD j (0,0,0)).2.1,z9 (n.getD j (0,0,0)).2.2] W λe E=>e=.returned (Q9 o)/\E.cell? ⟨y,0,N⟩=S (.bool z)/\y<E.heap.size/\Hid (LpC r b D v rules p s w (Zm o) ZR E)):=z6 (λW A h0=>by
  refine(hC.at (nt:=.nil) hv hk (h.below A) (KpM.of_below A) A.size).mono ?_;rintro e E⟨h1,h2,h3,h4,h5⟩;have a2:=zd B;have hs:=A.size;have hx:E.heap[y]?=S (zh (.bool z) 4):=by rw[h5 _ (by omega) n4 a3,A.block _ a2];exact B
  refine⟨h1,z8 hx 0,zd hx,z6 ⟨by rwa[VI]at h2,h3,?_⟩⟩;rw[h5 _ (zd h0) (by have:=d.out;omega) (by have:=d.out;omega)];exact h0)
 simp only[clV,zT]at q1;clear h hC hb M R hv U a1 F B;generalize (n.getD j (0,0,0)).1=x1 at *;generalize (n.getD j (0,0,0)).2.1=x2 at *;generalize (n.getD j (0,0,0)).2.2=x3 at *;cases o with
 |none=>
  cases z with
  |false=>
   have i:Q9 (N)=.agg #[I J 0,.bool false]:=rfl;simp only[i]at q;clear i;have K:=UR;go_enter_defers func202,ntmps202;go_wp2_with fail;refine Yj ?_;go_region;all_goals refine Yi ?_
   all_goals go_wp2_with fail
   all_goals refine Yj ?_
   all_goals go_region_with(go_at_call 177;go_loud(refine(q.out _ (by repeat(first|exact Below.refl _ _|refine Below.drew ?_|refine Below.alloc ?_ (by simp) _)) (by exact zk w _)).mono ?_;rintro _ l⟨rfl,H,L,a⟩))
   all_goals
    have Z:=z8 a.out.blk;have G:=zi a.out.blk;have O:=za a.out.blk;refine Yi ?_;go_wp2_with fail;obtain⟨X,c⟩:∃X,X=((l.setCell ⟨w.heap.size,0,N⟩ (I J k)).setCell ⟨w.heap.size,1,N⟩ (.bool true)):=⟨_,rfl⟩;have g:Below w.heap.size l X:=by rw[c];exact QT _ _ _ _
    have u:X.heap[w.heap.size]?=S (.cells #[I J k,.bool true] 229 (0,0)):=by rw[c];exact Jw a.out.blk _ _
    rw[<-c];have m:=a.out.ms.low d.out.1 d.out.2.1 g;refine leaves_cons (f:=152) (args:=#[z9 b,ntV .nil]) (by simp) (by simp[go_sem,ntV]) ?_;refine(V0 X b .returning p s _ _ .nil m.blk).mono ?_;rintro e V Y⟨rfl,rfl,rfl⟩;have t:w.heap.size≠b:=by have:=d.out;omega
    refine⟨_,results_cell_row rfl _ _ w.heap.size _ _ _ _ rfl (by rw[Below.heap_setCell _ _ _ _ t];exact u) underlying229 rfl (by kernel_rfl),?_⟩;exact⟨rfl,m.noted .nil,(a.out.kp.low g).noted _⟩
  |true=>
   have i:Q9 (N)=.agg #[I J 0,.bool false]:=rfl;simp only[i]at q;clear i;have K:=UR;go_enter_defers func202,ntmps202;go_wp2_with fail;refine Yj ?_;go_region;all_goals refine Yi ?_
   all_goals go_wp2_with fail
   all_goals refine Yj ?_
   all_goals go_region_with(go_at_call 177;go_loud(refine(q.out _ (by repeat(first|exact Below.refl _ _|refine Below.drew ?_|refine Below.alloc ?_ (by simp) _)) (by exact zk w _)).mono ?_;rintro _ l⟨rfl,H,L,a⟩))
   all_goals
    have Z:=z8 a.out.blk;have G:=zi a.out.blk;have O:=za a.out.blk;refine Yi ?_;go_wp2_with fail;obtain⟨X,c⟩:∃X,X=((l.setCell ⟨w.heap.size,0,N⟩ (I J 0)).setCell ⟨w.heap.size,1,N⟩ (.bool false)):=⟨_,rfl⟩;have g:Below w.heap.size l X:=by rw[c];exact QT _ _ _ _
    have u:X.heap[w.heap.size]?=S (.cells #[I J 0,.bool false] 229 (0,0)):=by rw[c];exact Jw a.out.blk _ _
    rw[<-c];have m:=a.out.ms.low d.out.1 d.out.2.1 g;refine leaves_cons (f:=152) (args:=#[z9 b,ntV .nil]) (by simp) (by simp[go_sem,ntV]) ?_;refine(V0 X b .returning p s _ _ .nil m.blk).mono ?_;rintro e V Y⟨rfl,rfl,rfl⟩;have t:w.heap.size≠b:=by have:=d.out;omega
    refine⟨_,results_cell_row rfl _ _ w.heap.size _ _ _ _ rfl (by rw[Below.heap_setCell _ _ _ _ t];exact u) underlying229 rfl (by kernel_rfl),?_⟩;exact⟨rfl,m.noted .nil,(a.out.kp.low g).noted _⟩
 |some x=>
  cases z with
  |false=>
   have i:Q9 (S x)=.agg #[I J x.1,.bool true]:=rfl;simp only[i]at q;clear i;have K:=UR;go_enter_defers func202,ntmps202;go_wp2_with fail;refine Yj ?_;go_region;all_goals refine Yi ?_
   all_goals go_wp2_with fail
   all_goals refine Yj ?_
   all_goals go_region_with(go_at_call 177;go_loud(refine(q.out _ (by repeat(first|exact Below.refl _ _|refine Below.drew ?_|refine Below.alloc ?_ (by simp) _)) (by exact zk w _)).mono ?_;rintro _ l⟨rfl,H,L,a⟩))
   all_goals
    have Z:=z8 a.out.blk;have G:=zi a.out.blk;have O:=za a.out.blk;refine Yi ?_;go_wp2_with fail;obtain⟨X,c⟩:∃X,X=((l.setCell ⟨w.heap.size,0,N⟩ (I J 0)).setCell ⟨w.heap.size,1,N⟩ (.bool false)):=⟨_,rfl⟩;have g:Below w.heap.size l X:=by rw[c];exact QT _ _ _ _
    have u:X.heap[w.heap.size]?=S (.cells #[I J 0,.bool false] 229 (0,0)):=by rw[c];exact Jw a.out.blk _ _
    rw[<-c];have m:=a.out.ms.low d.out.1 d.out.2.1 g;refine leaves_cons (f:=152) (args:=#[z9 b,ntV .nil]) (by simp) (by simp[go_sem,ntV]) ?_;refine(V0 X b .returning p s _ _ .nil m.blk).mono ?_;rintro e V Y⟨rfl,rfl,rfl⟩;have t:w.heap.size≠b:=by have:=d.out;omega
    refine⟨_,results_cell_row rfl _ _ w.heap.size _ _ _ _ rfl (by rw[Below.heap_setCell _ _ _ _ t];exact u) underlying229 rfl (by kernel_rfl),?_⟩;exact⟨rfl,m.noted .nil,(a.out.kp.low g).noted _⟩
  |true=>
   have i:Q9 (S x)=.agg #[I J x.1,.bool true]:=rfl;simp only[i]at q;clear i;have K:=UR;go_enter_defers func202,ntmps202;go_wp2_with fail;refine Yj ?_;go_region;all_goals refine Yi ?_
   all_goals go_wp2_with fail
   all_goals refine Yj ?_
   all_goals go_region_with(go_at_call 177;go_loud(refine(q.out _ (by repeat(first|exact Below.refl _ _|refine Below.drew ?_|refine Below.alloc ?_ (by simp) _)) (by exact zk w _)).mono ?_;rintro _ l⟨rfl,H,L,a⟩))
   all_goals
    have Z:=z8 a.out.blk;have G:=zi a.out.blk;have O:=za a.out.blk;refine Yi ?_;go_wp2_with fail;obtain⟨X,c⟩:∃X,X=((l.setCell ⟨w.heap.size,0,N⟩ (I J k)).setCell ⟨w.heap.size,1,N⟩ (.bool true)):=⟨_,rfl⟩;have g:Below w.heap.size l X:=by rw[c];exact QT _ _ _ _
    have u:X.heap[w.heap.size]?=S (.cells #[I J k,.bool true] 229 (0,0)):=by rw[c];exact Jw a.out.blk _ _
    rw[<-c];have m:=a.out.ms.low d.out.1 d.out.2.1 g;refine leaves_cons (f:=152) (args:=#[z9 b,ntV .nil]) (by simp) (by simp[go_sem,ntV]) ?_;refine(V0 X b .returning p s _ _ .nil m.blk).mono ?_;rintro e V Y⟨rfl,rfl,rfl⟩;have t:w.heap.size≠b:=by have:=d.out;omega
    refine⟨_,results_cell_row rfl _ _ w.heap.size _ _ _ _ rfl (by rw[Below.heap_setCell _ _ _ _ t];exact u) underlying229 rfl (by kernel_rfl),?_⟩;exact⟨rfl,m.noted .nil,(a.out.kp.low g).noted _⟩
end
end Go.Proofs.YtiganlkabilblaaGreatDoor
