import Derived.Test.YtiganlkabilblaaGreatDoorV17
set_option linter.all false
set_option maxHeartbeats 64000000
set_option maxRecDepth 100000
namespace Go.Proofs.YtiganlkabilblaaGreatDoor
open Tryz
open Tryz renaming prog->P
open Option renaming some->S,none->N
open Value renaming int->I
open IntKind renaming i64->J
section
open Go.RowKit
attribute [local go_sem ↓] Go.wp_at_zero Go.wp_at_succ
theorem zcD{w:World}{b:Nat}{x y z:Value}{T:TypeId}(h:w.heap[b]?=S (.cells #[x,y,z] T (0,0)))(u1 u2 u3 u4 u5 u6:Value):((((((w.setCell ⟨b,0,N⟩ u1).setCell ⟨b,1,N⟩ u2).setCell ⟨b,2,N⟩ u3).setCell ⟨b,0,N⟩ u4).setCell ⟨b,1,N⟩ u5).setCell ⟨b,2,N⟩ u6).heap[b]?=S (.cells #[u4,u5,u6] T (0,0)):=by rw[zo (zo (zo (zo (zo (zo h _) _) _) _) _) _];rfl
theorem zaY{A:World}{a d:Nat}{m:List Nd}{rules:List Nat}{j:Value}{s:ByteArray}(w:World)(g:Nat)(Z:Array Value)(k:Nat)(r:Out)(c:Nt)(h:MS A a d m rules j s c w)(a3:∀(Y:Array Value) (w:World),(callFunc g Y).run P w=.ok (.enter g Y) w)(he:∀W,MS A a d m rules j s .nil W->Calls P g (#[I J k]++Z) W λe z=>e=.returned (Q9 r)/\MS A a d m rules j s (Zm r) z/\KpM [a,d] W.heap.size W z):Calls P 120 #[z9 a,.func (.func g) #[] Z,I J k] w λe z=>e=.returned (Qb r)/\MS A a d m rules j s c z/\KpM [a,d] w.heap.size w z:=by
 have q:w.cell? ⟨a,3,N⟩=S (ntV c):=z8 h.blk 3;have fz:=zi h.blk 3;have hl:=zd h.blk;have H:=z6 h;have HE:=z6 he;have a4:=QV c;clear h he;go_enter_defers func120,ntmps120;go_wp2_with fail;have a0:MS A a d m rules j s .nil ((w.setCell ⟨a,3,N⟩ .nilIface).alloc (.cells #[I J 0,.bool false,.nilIface] 231)):=(H.out.noted .nil).below (zc _ _);refine(HE.out _ a0).mono ?_;rintro _ l⟨rfl,D,B⟩;obtain⟨n,o⟩:∃n,n=((w.setCell ⟨a,3,N⟩ .nilIface).alloc (.cells #[I J 0,.bool false,.nilIface] 231)):=⟨_,rfl⟩;rw[<-o]at B;have a1:n.heap.size=w.heap.size+1:=by rw[o];simp[World.setCell]
 have y:l.heap[w.heap.size]?=S (.cells #[I J 0,.bool false,.nilIface] 231 (0,0)):=by rw[B.block _ (by omega) (by simp;have:=H.out.tge;obtain⟨L,hL,_⟩:=H.out.memo;have:=hL.lt;omega),o];have:=zk (w.setCell ⟨a,3,N⟩ .nilIface) (.cells #[I J 0,.bool false,.nilIface] 231);simpa[World.setCell]using this
 have qm:l.cell? ⟨a,3,N⟩=S (ntV (Zm r)):=z8 D.blk 3;have a5:=zd D.blk;have qr:=z8 y;have fr:=zi y;have lr:=za y;have U:=z6 D;have M:=z6 B;have V:=z6 a1;have X:=z6 o;have hf:=QV (Zm r);obtain⟨nv,F⟩:∃nv,nv=ntV (Zm r):=⟨_,rfl⟩;rw[<-F]at qm hf;have O:=z6 F;have R:=z6 y;clear D B y o a0 a1 F q fz;rcases hf with rfl|⟨t,x,rfl⟩
 ·go_wp2_with fail;go_region;all_goals
   go_wp2_with fail;obtain⟨b,i⟩:∃b,b=(((((((l.setCell ⟨w.heap.size,0,N⟩ (I J 0)).setCell ⟨w.heap.size,1,N⟩ (.bool false)).setCell ⟨w.heap.size,2,N⟩ .nilIface).setCell ⟨w.heap.size,0,N⟩ (I J (zN r))).setCell ⟨w.heap.size,1,N⟩ (.bool r.isSome)).setCell ⟨w.heap.size,2,N⟩ .nilIface).alloc (.cells #[I J (zN r),.bool r.isSome] 229)).drew:=⟨_,rfl⟩;rw[<-i];have u:Below w.heap.size l b:=by rw[i];refine Below.drew (Below.alloc ?_ (by simp[World.setCell];omega) _);exact((((((Below.refl _ _).setCell (p:=⟨w.heap.size,0,N⟩) (Nat.le_refl _) _).setCell (p:=⟨w.heap.size,1,N⟩) (Nat.le_refl _) _).setCell (p:=⟨w.heap.size,2,N⟩) (Nat.le_refl _) _).setCell (p:=⟨w.heap.size,0,N⟩) (Nat.le_refl _) _).setCell (p:=⟨w.heap.size,1,N⟩) (Nat.le_refl _) _).setCell (p:=⟨w.heap.size,2,N⟩) (Nat.le_refl _) _
   have G:b.heap[w.heap.size]?=S (.cells #[I J (zN r),.bool r.isSome,.nilIface] 231 (0,0)):=by rw[i];show(World.alloc _ _).heap[w.heap.size]?=_;rw[zm _ _ (by simp[World.setCell];omega)];exact zcD R.out _ _ _ _ _ _
   have v:=U.out.low (H.out.size) H.out.tlt u;refine leaves_cons (f:=152) (args:=#[z9 a,ntV c]) (by simp) (by simp[go_sem]) ?_;refine(V0 b a .returning j s _ _ c v.blk).mono ?_;rintro e u' a2⟨rfl,rfl,rfl⟩;have K:w.heap.size≠a:=by omega
   refine⟨_,results_cell_row rfl _ _ w.heap.size _ _ _ _ rfl (by rw[Below.heap_setCell _ _ _ _ K];exact G) underlying231 rfl (by kernel_rfl),?_⟩;refine⟨by rw[O.out],v.noted c,?_⟩;refine KpM.noted (KpM.low ?_ u) _;have E:KpM [a,d] w.heap.size w n:=by rw[X.out];exact KpM.low ((KpM.refl _ _ _).noted _) ((Below.refl _ _).alloc (by simp[World.setCell]) _)
   exact E.trans (M.out.mono (by have:=V.out;omega))
 ·go_wp2_with fail;go_region;all_goals
   go_wp2_with fail;obtain⟨b,i⟩:∃b,b=(((((((l.setCell ⟨w.heap.size,0,N⟩ (I J 0)).setCell ⟨w.heap.size,1,N⟩ (.bool false)).setCell ⟨w.heap.size,2,N⟩ .nilIface).setCell ⟨w.heap.size,0,N⟩ (I J (zN r))).setCell ⟨w.heap.size,1,N⟩ (.bool r.isSome)).setCell ⟨w.heap.size,2,N⟩ (.iface t x)).alloc (.cells #[I J (zN r),.bool r.isSome] 229)).drew:=⟨_,rfl⟩;rw[<-i];have u:Below w.heap.size l b:=by rw[i];refine Below.drew (Below.alloc ?_ (by simp[World.setCell];omega) _);exact((((((Below.refl _ _).setCell (p:=⟨w.heap.size,0,N⟩) (Nat.le_refl _) _).setCell (p:=⟨w.heap.size,1,N⟩) (Nat.le_refl _) _).setCell (p:=⟨w.heap.size,2,N⟩) (Nat.le_refl _) _).setCell (p:=⟨w.heap.size,0,N⟩) (Nat.le_refl _) _).setCell (p:=⟨w.heap.size,1,N⟩) (Nat.le_refl _) _).setCell (p:=⟨w.heap.size,2,N⟩) (Nat.le_refl _) _
   have G:b.heap[w.heap.size]?=S (.cells #[I J (zN r),.bool r.isSome,(.iface t x)] 231 (0,0)):=by rw[i];show(World.alloc _ _).heap[w.heap.size]?=_;rw[zm _ _ (by simp[World.setCell];omega)];exact zcD R.out _ _ _ _ _ _
   have v:=U.out.low (H.out.size) H.out.tlt u;refine leaves_cons (f:=152) (args:=#[z9 a,ntV c]) (by simp) (by simp[go_sem]) ?_;refine(V0 b a .returning j s _ _ c v.blk).mono ?_;rintro e u' a2⟨rfl,rfl,rfl⟩;have K:w.heap.size≠a:=by omega
   refine⟨_,results_cell_row rfl _ _ w.heap.size _ _ _ _ rfl (by rw[Below.heap_setCell _ _ _ _ K];exact G) underlying231 rfl (by kernel_rfl),?_⟩;refine⟨by rw[O.out],v.noted c,?_⟩;refine KpM.noted (KpM.low ?_ u) _;have E:KpM [a,d] w.heap.size w n:=by rw[X.out];exact KpM.low ((KpM.refl _ _ _).noted _) ((Below.refl _ _).alloc (by simp[World.setCell]) _)
   exact E.trans (M.out.mono (by have:=V.out;omega))
theorem Qz.lookB{w:World}{a:Nat}{L:J3}(h:Qz w a L)(n k:Nat){W:World}(b:Below w.heap.size w W):(Instr.lookup 174 (.map (S a)) (Q0 n k) true).run P W=.ok (.tuple #[Qb ((ZK L n k).getD N),.bool (ZK L n k).isSome]) W:=(h.same (b.block _ h.lt)).look n k
theorem QY(w:World)(a b:Obj):Below w.heap.size w ((w.alloc a).alloc b):=(zc w a).alloc (by simp) b
theorem Qs(w:World)(a b c:Obj):Below w.heap.size w (((w.alloc a).alloc b).alloc c):=(QY w a b).alloc (by simp;omega) c
theorem zgY{G:World}{d f:Nat}{F:List Nd}{rules:List Nat}{u:Value}{s:ByteArray}(w:World)(ev:Value)(n k:Nat)(r:Out)(q:Nt)(h:MS G d f F rules u s q w)(L:J3)(y:Qz w f L)(hm:ZK L n k=S r):Calls P 178 #[z9 d,I J n,ev,I J k] w λe w'=>e=.returned (Q9 r)/\MS G d f F rules u s (jn q (Zm r)) w'/\KpM [d,f] w.heap.size w w':=by
 have q2:w.cell? ⟨d,2,N⟩=S (.map (S f)):=z8 h.blk 2;have hl:=zd h.blk;have c3:∀a b c,(((w.alloc a).alloc b).alloc c).cell? ⟨d,2,N⟩=S (.map (S f)):=λa b c=>by rw[(Qs w a b c).cell (p:=⟨d,2,N⟩) hl];exact q2
 have k1:=λa b=>y.lookB n k (QY w a b);have k2:=λa b=>y.lookB n k (QY w a b).drew;have k3:=λa b c=>y.lookB n k (Qs w a b c);have k4:=λa b c=>y.lookB n k (Qs w a b c).drew;simp only[hm,Option.getD_some,Option.isSome_some,Q0,Qb]at k1 k2 k3 k4;have H:=z6 h;have Z:=QV (Zm r);obtain⟨nv,W⟩:∃nv,nv=ntV (Zm r):=⟨_,rfl⟩;rw[<-W]at k1 k2 k3 k4 Z;have Y:=z6 W;clear h y hm W;have E:=z6 (And.intro H.out.size H.out.tlt);rcases Z with rfl|⟨t,x,rfl⟩
 ·go_enter func178,ntmps178;go_wp2_with fail;go_region;all_goals go_wp2_with fail
  all_goals
   obtain⟨X,l⟩:∃X,X=(((w.alloc (Obj.cells #[I J 0,.bool false] 229)).alloc (Obj.cells #[I J n,I J k] 328)).alloc (Obj.cells #[I J (zN r),.bool r.isSome,.nilIface] 231)).drew:=⟨_,rfl⟩;have v:Below w.heap.size w X:=by rw[l];exact(Qs w _ _ _).drew
   have z:=H.out.below v;have R:KpM [d,f] w.heap.size w X:=KpM.of_below v;rw[<-l];have m:=KQ X d u s (.map (S f)) q (Zm r) z.blk;rw[<-Y.out]at m;have B:X.heap[w.heap.size]?=S (.cells #[I J 0,.bool false] 229 (0,0)):=by rw[l];show(World.alloc _ _).heap[w.heap.size]?=_;rw[zm _ _ (by simp;omega),zm _ _ (by simp)];exact zk _ _
   have D:X.heap[w.heap.size+1+1]?=S (.cells #[I J (zN r),.bool r.isSome,.nilIface] 231 (0,0)):=by rw[l];show(World.alloc _ _).heap[w.heap.size+1+1]?=_;have:=zk ((w.alloc (Obj.cells #[I J 0,.bool false] 229)).alloc (Obj.cells #[I J n,I J k] 328)) (Obj.cells #[I J (zN r),.bool r.isSome,.nilIface] 231);simpa using this
   refine m.mono ?_;rintro _ g⟨rfl,i⟩;have U:w.heap.size≠d:=by omega
   have V:w.heap.size+1+1≠d:=by omega
   have j:g.heap[w.heap.size]?=S (.cells #[I J 0,.bool false] 229 (0,0)):=by rw[i,Below.heap_setCell _ _ _ _ U];exact B
   have o:g.heap[w.heap.size+1+1]?=S (.cells #[I J (zN r),.bool r.isSome,.nilIface] 231 (0,0)):=by rw[i,Below.heap_setCell _ _ _ _ V];exact D
   have z0:=z8 j;have z2:=z8 o;have f0:=zi j;have l0:=za j;have l2:=za o;have M:Hid (MS G d f F rules u s (jn q (Zm r)) g):=by rw[i];exact z.noted _
   have K:Hid (KpM [d,f] w.heap.size w g):=by rw[i];exact KpM.noted R _
   have O:=z6 j;clear m i B D j o;go_wp2_with fail;have A:Below w.heap.size g ((g.setCell ⟨w.heap.size,0,N⟩ (I J (zN r))).setCell ⟨w.heap.size,1,N⟩ (.bool r.isSome)):=((Below.refl _ _).setCell (p:=⟨w.heap.size,0,N⟩) (Nat.le_refl _) _).setCell (p:=⟨w.heap.size,1,N⟩) (Nat.le_refl _) _;refine bodyPost_ret (results_cell_row rfl _ _ w.heap.size _ _ _ _ rfl (zo (zo O.out _) _) underlying229 rfl (by kernel_rfl)) rfl ?_;exact⟨rfl,M.out.low E.out.1 E.out.2 A,K.out.low A⟩
 ·go_enter func178,ntmps178;go_wp2_with fail;go_region;all_goals go_wp2_with fail
  all_goals
   obtain⟨X,l⟩:∃X,X=(((w.alloc (Obj.cells #[I J 0,.bool false] 229)).alloc (Obj.cells #[I J n,I J k] 328)).alloc (Obj.cells #[I J (zN r),.bool r.isSome,(.iface t x)] 231)).drew:=⟨_,rfl⟩;have v:Below w.heap.size w X:=by rw[l];exact(Qs w _ _ _).drew
   have z:=H.out.below v;have R:KpM [d,f] w.heap.size w X:=KpM.of_below v;rw[<-l];have m:=KQ X d u s (.map (S f)) q (Zm r) z.blk;rw[<-Y.out]at m;have B:X.heap[w.heap.size]?=S (.cells #[I J 0,.bool false] 229 (0,0)):=by rw[l];show(World.alloc _ _).heap[w.heap.size]?=_;rw[zm _ _ (by simp;omega),zm _ _ (by simp)];exact zk _ _
   have D:X.heap[w.heap.size+1+1]?=S (.cells #[I J (zN r),.bool r.isSome,(.iface t x)] 231 (0,0)):=by rw[l];show(World.alloc _ _).heap[w.heap.size+1+1]?=_;have:=zk ((w.alloc (Obj.cells #[I J 0,.bool false] 229)).alloc (Obj.cells #[I J n,I J k] 328)) (Obj.cells #[I J (zN r),.bool r.isSome,(.iface t x)] 231);simpa using this
   refine m.mono ?_;rintro _ g⟨rfl,i⟩;have U:w.heap.size≠d:=by omega
   have V:w.heap.size+1+1≠d:=by omega
   have j:g.heap[w.heap.size]?=S (.cells #[I J 0,.bool false] 229 (0,0)):=by rw[i,Below.heap_setCell _ _ _ _ U];exact B
   have o:g.heap[w.heap.size+1+1]?=S (.cells #[I J (zN r),.bool r.isSome,(.iface t x)] 231 (0,0)):=by rw[i,Below.heap_setCell _ _ _ _ V];exact D
   have z0:=z8 j;have z2:=z8 o;have f0:=zi j;have l0:=za j;have l2:=za o;have M:Hid (MS G d f F rules u s (jn q (Zm r)) g):=by rw[i];exact z.noted _
   have K:Hid (KpM [d,f] w.heap.size w g):=by rw[i];exact KpM.noted R _
   have O:=z6 j;clear m i B D j o;go_wp2_with fail;have A:Below w.heap.size g ((g.setCell ⟨w.heap.size,0,N⟩ (I J (zN r))).setCell ⟨w.heap.size,1,N⟩ (.bool r.isSome)):=((Below.refl _ _).setCell (p:=⟨w.heap.size,0,N⟩) (Nat.le_refl _) _).setCell (p:=⟨w.heap.size,1,N⟩) (Nat.le_refl _) _;refine bodyPost_ret (results_cell_row rfl _ _ w.heap.size _ _ _ _ rfl (zo (zo O.out _) _) underlying229 rfl (by kernel_rfl)) rfl ?_;exact⟨rfl,M.out.low E.out.1 E.out.2 A,K.out.low A⟩
theorem zbR:∀(L:J3) {n k:Nat} {r:Out},ZK L n k=S r->∃h:L.findIdx (λp=>p.1.1==n&&p.1.2==k)<L.length,L[L.findIdx (λp=>p.1.1==n&&p.1.2==k)]=((n,k),r)
 |[],_,_,_,h=>by simp[ZK]at h
 |p::L,n,k,r,h=>by
  unfold ZK at h;rw[List.find?_cons]at h;cases d:(p.1.1==n&&p.1.2==k)with
  |true=>
   rw[d]at h;simp only[Option.map_some,Option.some.injEq]at h;have e:(p::L).findIdx (λp=>p.1.1==n&&p.1.2==k)=0:=by rw[List.findIdx_cons,d];rfl
   refine⟨by rw[e];simp,?_⟩;simp only[e,List.getElem_cons_zero];simp only[Bool.and_eq_true,beq_iff_eq]at d;obtain⟨⟨a,b⟩,c⟩:=p;simp only[]at d h;rw[d.1,d.2,h]
  |false=>
   rw[d]at h;obtain⟨f,g⟩:=zbR L (n:=n) (k:=k) (r:=r) h;have e:(p::L).findIdx (λp=>p.1.1==n&&p.1.2==k)=L.findIdx (λp=>p.1.1==n&&p.1.2==k)+1:=by rw[List.findIdx_cons,d];rfl
   refine⟨by rw[e,List.length_cons];exact Nat.succ_lt_succ f,?_⟩;simp only[e,List.getElem_cons_succ];exact g
theorem Qz.again{w:World}{b:Nat}{L:J3}(h:Qz w b L)(n k:Nat)(r:Out)(u:ZK L n k=S r):∃o,(Instr.mapUpdate 174 (.map (S b)) (Q0 n k) (Qb r)).run P w=.ok () (JU w b o)/\Qz (JU w b o) b L:=by
 obtain⟨a,l,f,d⟩:=h;have v:=qL false (n:Int) (k:Int) w;have g:=qW n k w a.toList L d;rw[u]at g;simp only[]at g;obtain⟨z,y⟩:=zbR L u;generalize G:L.findIdx (λp=>p.1.1==n&&p.1.2==k)=i at *;have H:a.toList.length=L.length:=by have:=congrArg List.length d;simpa[Yb]using this
 have q:i<a.size:=by rw[<-Array.length_toList];omega
 have m:(a[i].key,a[i].val)=(Q0 n k,Qb r):=by
  have c:(a.toList.map (λx=>(x.key,x.val)))[i]?=(Yb L)[i]?:=by rw[d]
  rw[List.getElem?_map,List.getElem?_eq_getElem (by omega)]at c;unfold Yb at c;rw[List.getElem?_map,List.getElem?_eq_getElem z,y]at c;simpa using c
 have t:a[i].key=Q0 n k:=(Prod.mk.injEq _ _ _ _▸m).1;have F:a[i].val=Qb r:=(Prod.mk.injEq _ _ _ _▸m).2;have D:Instr.sameBits 10000 (Q0 n k) (Q0 n k)=true:=by simp[Instr.sameBits]
 have A:((a[i]?).map (·.key)).getD (Q0 n k)=Q0 n k:=by rw[Array.getElem?_eq_getElem q];simp[t]
 refine⟨.map (a.modify i λe=>{e with key:=Q0 n k,val:=Qb r}) l,?_,a.modify i (λe=>{e with key:=Q0 n k,val:=Qb r}),l,?_,?_⟩
 ·have E:(Instr.keyThatStays (((a[i]?).map (·.key)).getD (Q0 n k)) (Q0 n k)).run P w=.ok (Q0 n k) w:=by rw[A];simp[Instr.keyThatStays,D]
  simp[Instr.mapUpdate,run_underlying underlying174,MapKept.run_getObj_map f,v,g,Result.andThen,MapKept.run_setObj_map _ f,E]
 ·have B:=zd f;show(w.heap.setIfInBounds b _)[b]?=_;rw[Array.getElem?_setIfInBounds_self_of_lt B]
 ·rw[<-d];apply List.ext_getElem?;intro j;rw[List.getElem?_map,List.getElem?_map,Array.getElem?_toList,Array.getElem?_toList,Array.getElem?_modify];by_cases s:i=j;·subst s;rw[if_pos rfl,Array.getElem?_eq_getElem q];simp[t,F]
  ·rw[if_neg s]
theorem zgz(L:J3)(n k:Nat)(r:Out)(e:ZK L n k=N){a b:Nat}{v:Out}(h:ZK (L++[((n,k),r)]) a b=S v):ZK L a b=S v\/(a=n/\b=k/\v=r):=by
 unfold ZK at h|-;rw[List.find?_append]at h;cases d:L.find? (λp=>p.1.1==a&&p.1.2==b)with
 |some p=>rw[d]at h;exact .inl h
 |none=>
  rw[d]at h;simp only[Option.none_or,List.find?_cons,List.find?_nil]at h;cases c:(n==a&&k==b)with
  |true=>rw[c]at h;simp only[Option.map_some,Option.some.injEq]at h;simp only[Bool.and_eq_true,beq_iff_eq]at c;exact .inr ⟨c.1.symm,c.2.symm,h.symm⟩|false=>rw[c]at h;cases h
theorem MS.put{y:World}{d c:Nat}{N:List Nd}{rules:List Nat}{x:Value}{s:ByteArray}{u:Nt}{w:World}(h:MS y d c N rules x s u w){f n k:Nat}{r:Out}(D:evN N rules s.data.toList f n k=S r):∃o,(Instr.mapUpdate 174 (.map (S c)) (Q0 n k) (Qb r)).run P w=.ok () (JU w c o)/\MS y d c N rules x s u (JU w c o)/\KpM [d,c] w.heap.size w (JU w c o):=by
 obtain⟨L,z,m⟩:=h.memo;have J:d≠c:=by have:=h.mlt;have:=h.tge;omega
 have t:∀o b,b≠c->(JU w c o).heap[b]?=w.heap[b]?:=λo b q=>by show(w.heap.setIfInBounds c o)[b]?=_;rw[Array.getElem?_setIfInBounds_ne (λe=>q e.symm)]
 have B:∀o,(JU w c o).heap.size=w.heap.size:=λo=>by show(w.heap.setIfInBounds c o).size=_;simp
 have A:∀o,KpM [d,c] w.heap.size w (JU w c o):=λo=>⟨rfl,rfl,rfl,by rw[B o];exact Nat.le_refl _,λb _ q=>t o b (λe=>q (by simp[e]))⟩;have mk:∀o j,Qz (JU w c o) c j->(∀a b v,ZK j a b=S v->∃f,evN N rules s.data.toList f a b=S v)->MS y d c N rules x s u (JU w c o):=λo j g i=>⟨by rw[B o];exact h.size,λb F G=>by rw[t o b (by have:=h.tge;omega)];exact h.old b F G,h.mlt,by rw[t o d J];exact h.blk,h.tge,j,g,i⟩;cases l:ZK L n k with
 |none=>
  obtain⟨o,g,i⟩:=z.put n k r l;refine⟨o,g,mk o _ i ?_,A o⟩;intro a b v p;rcases zgz L n k r l p with p|⟨rfl,rfl,rfl⟩;·exact m a b v p
  ·exact⟨f,D⟩
 |some E=>obtain⟨K,H⟩:=m n k E l;have:=zbu H D;subst this;obtain⟨o,g,i⟩:=z.again n k E l;exact⟨o,g,mk o L i m,A o⟩
theorem zgZ{X:World}{d i:Nat}{M:List Nd}{rules:List Nat}{E:Value}{s:ByteArray}(w:World)(g:Nat)(ak:Array Value)(f n k:Nat)(r:Out)(y:Nt)(h:MS X d i M rules E s y w)(L:J3)(hL:Qz w i L)(hm:ZK L n k=N)(hv:evN M rules s.data.toList f n k=S r)(aE:∀(aC:Array Value) (w:World),(callFunc g aC).run P w=.ok (.enter g aC) w)(he:∀W,MS X d i M rules E s .nil W->Calls P g (#[I J k]++ak) W λe V=>e=.returned (Q9 r)/\MS X d i M rules E s (Zm r) V/\KpM [d,i] W.heap.size W V):Calls P 178 #[z9 d,I J n,.func (.func g) #[] ak,I J k] w λe V=>e=.returned (Q9 r)/\MS X d i M rules E s (jn y (Zm r)) V/\KpM [d,i] w.heap.size w V:=by
 have q2:w.cell? ⟨d,2,N⟩=S (.map (S i)):=z8 h.blk 2;have hl:=zd h.blk;have c3:∀a b c,(((w.alloc a).alloc b).alloc c).cell? ⟨d,2,N⟩=S (.map (S i)):=λa b c=>by rw[(Qs w a b c).cell (p:=⟨d,2,N⟩) hl];exact q2
 have k1:=λa b=>hL.lookB n k (QY w a b);have k2:=λa b=>hL.lookB n k (QY w a b).drew;have k3:=λa b c=>hL.lookB n k (Qs w a b c);have k4:=λa b c=>hL.lookB n k (Qs w a b c).drew;simp only[hm,Option.getD_none,Option.isSome_none,Q0,Qb,zN,Zm,ntV]at k1 k2 k3 k4;have H:=z6 h;have HV:=z6 hv;have aD:=λ(W:World) (hW:MS X d i M rules E s y W)=>zaY W g ak k r y hW aE he;have aB:=z6 aD;have K:=z6 (And.intro H.out.size H.out.tlt);have hf:=QV (Zm r);obtain⟨O,av⟩:∃O,O=ntV (Zm r):=⟨_,rfl⟩;have a3:=z6 av;rw[<-av]at hf;clear h hL hm he aE hv aD av;rcases hf with rfl|⟨t,x,rfl⟩
 ·go_enter func178,ntmps178;go_wp2_with fail;go_region;all_goals go_wp2_with fail
  all_goals
   obtain⟨m,q⟩:∃m,m=(((w.alloc (Obj.cells #[I J 0,.bool false] 229)).alloc (Obj.cells #[I J n,I J k] 328)).alloc (Obj.cells #[I J 0,.bool false,.nilIface] 231)).drew:=⟨_,rfl⟩;have a2:Below w.heap.size w m:=by rw[q];exact(Qs w _ _ _).drew
   have aq:m.heap.size=w.heap.size+3:=by rw[q];show(World.alloc _ _).heap.size=_;simp
   have g0:m.heap[w.heap.size]?=S (.cells #[I J 0,.bool false] 229 (0,0)):=by rw[q];show(World.alloc _ _).heap[w.heap.size]?=_;rw[zm _ _ (by simp;omega),zm _ _ (by simp)];exact zk _ _
   have g1:m.heap[w.heap.size+1]?=S (.cells #[I J n,I J k] 328 (0,0)):=by rw[q];show(World.alloc _ _).heap[w.heap.size+1]?=_;rw[zm _ _ (by simp)];have:=zk (w.alloc (Obj.cells #[I J 0,.bool false] 229)) (Obj.cells #[I J n,I J k] 328);simpa using this
   have g2:m.heap[w.heap.size+1+1]?=S (.cells #[I J 0,.bool false,.nilIface] 231 (0,0)):=by rw[q];show(World.alloc _ _).heap[w.heap.size+1+1]?=_;have:=zk ((w.alloc (Obj.cells #[I J 0,.bool false] 229)).alloc (Obj.cells #[I J n,I J k] 328)) (Obj.cells #[I J 0,.bool false,.nilIface] 231);simpa using this
   rw[<-q];refine(aB.out m (H.out.below a2)).mono ?_;rintro _ F⟨rfl,a9,z⟩;have A:∀b,w.heap.size<=b->b∉[d,i]:=λb hb=>by simp;have:=K.out.2;omega
   have i0:F.heap[w.heap.size]?=S (.cells #[I J 0,.bool false] 229 (0,0)):=by rw[z.block _ (by omega) (A _ (by omega))];exact g0
   have i1:F.heap[w.heap.size+1]?=S (.cells #[I J n,I J k] 328 (0,0)):=by rw[z.block _ (by omega) (A _ (by omega))];exact g1
   have D:F.heap[w.heap.size+1+1]?=S (.cells #[I J 0,.bool false,.nilIface] 231 (0,0)):=by rw[z.block _ (by omega) (A _ (by omega))];exact g2
   obtain⟨j,u⟩:∃j,j=(((F.setCell ⟨w.heap.size+1+1,0,N⟩ (I J (zN r))).setCell ⟨w.heap.size+1+1,1,N⟩ (.bool r.isSome)).setCell ⟨w.heap.size+1+1,2,N⟩ .nilIface):=⟨_,rfl⟩;have a1:Below w.heap.size F j:=by rw[u];exact(((Below.refl _ _).setCell (p:=⟨w.heap.size+1+1,0,N⟩) (by show w.heap.size<=w.heap.size+1+1;omega) _).setCell (p:=⟨w.heap.size+1+1,1,N⟩) (by show w.heap.size<=w.heap.size+1+1;omega) _).setCell (p:=⟨w.heap.size+1+1,2,N⟩) (by show w.heap.size<=w.heap.size+1+1;omega) _
   have a7:=a9.low K.out.1 K.out.2 a1;have j0:j.heap[w.heap.size]?=S (.cells #[I J 0,.bool false] 229 (0,0)):=by rw[u,Below.heap_setCell _ _ _ _ (by simp;omega),Below.heap_setCell _ _ _ _ (by simp;omega),Below.heap_setCell _ _ _ _ (by simp;omega)];exact i0
   have j1:j.heap[w.heap.size+1]?=S (.cells #[I J n,I J k] 328 (0,0)):=by rw[u,Below.heap_setCell _ _ _ _ (by simp),Below.heap_setCell _ _ _ _ (by simp),Below.heap_setCell _ _ _ _ (by simp)];exact i1
   have j2:j.heap[w.heap.size+1+1]?=S (.cells #[I J (zN r),.bool r.isSome,.nilIface] 231 (0,0)):=by rw[u,zo (zo (zo D _) _) _];rfl
   have a6:KpM [d,i] w.heap.size w j:=((KpM.of_below a2).trans (z.mono (by omega))).low a1;have a0:=z6 a7;have ae:=z6 a6;have al:=z8 D;have ap:=zi D;have ax:=za D;have ai:=z6 u;have Y:=z6 j0;have a4:=z6 j1;have R:=z6 j2;clear a9 z i0 i1 D g0 g1 g2 a7 a6 a1 a2 aq j0 j1 j2 u q k1 k2 k3 k4 c3 q2;have aa:Qb r=.agg #[I J (zN r),.bool r.isSome,.nilIface]:=by rw[a3.out]
   rw[aa];clear aa;go_wp2_with fail;rw[<-ai.out];clear al ap ax;have am:=z8 a4.out;have an:=z8 R.out;have ay:=za a4.out;have az:=za R.out;have cm:j.cell? ⟨d,2,N⟩=S (.map (S i)):=z8 a0.out.blk 2;have lm:=zd a0.out.blk;obtain⟨l,aw,a5,Z⟩:∃l,(Instr.mapUpdate 174 (.map (S i)) (.agg #[I J n,I J k]) (.agg #[I J (zN r),.bool r.isSome,.nilIface])).run P j.drew=.ok () l/\Hid (MS X d i M rules E s y l)/\Hid (KpM [d,i] j.heap.size j.drew l):=by obtain⟨o,h1,h2,h3⟩:=(a0.out.below (Below.refl _ _).drew).put HV.out;refine⟨_,?_,z6 h2,z6 h3⟩;rw[<-h1];simp only[Qb,Q0, <-a3.out]
   have m0:l.heap[w.heap.size]?=S (.cells #[I J 0,.bool false] 229 (0,0)):=by rw[Z.out.block _ (zd Y.out) (A _ (Nat.le_refl _))];exact Y.out
   have U:l.heap[w.heap.size+1+1]?=S (.cells #[I J (zN r),.bool r.isSome,.nilIface] 231 (0,0)):=by rw[Z.out.block _ (zd R.out) (A _ (by omega))];exact R.out
   have ad:Hid (KpM [d,i] w.heap.size w l):=z6 ((ae.out.low (Below.refl _ _).drew).trans (Z.out.mono (by have:=zd Y.out;omega)));have HN:Hid (∀O,ntV (Zm r)=O->Calls P 192 #[.pointer (S ⟨d,0,N⟩),O] l λe V=>e=.returned (.tuple #[])/\V=l.setCell ⟨d,3,N⟩ (ntV (jn y (Zm r)))):=z6 (λO hn=>hn▸KQ l d E s (.map (S i)) y (Zm r) a5.out.blk);have ao:=z8 U;have aA:=za U;have af:=z6 m0;have ag:=z6 U;clear m0 U;go_region;all_goals go_wp2_with fail
   all_goals
    refine(HN.out _ a3.out.symm).mono ?_;rintro _ v⟨rfl,B⟩;have ar:w.heap.size≠d:=by omega
    have au:w.heap.size+1+1≠d:=by omega
    have G:v.heap[w.heap.size]?=S (.cells #[I J 0,.bool false] 229 (0,0)):=by rw[B,Below.heap_setCell _ _ _ _ ar];exact af.out
    have y2:v.heap[w.heap.size+1+1]?=S (.cells #[I J (zN r),.bool r.isSome,.nilIface] 231 (0,0)):=by rw[B,Below.heap_setCell _ _ _ _ au];exact ag.out
    have z0:=z8 G;have z2:=z8 y2;have f0:=zi G;have l0:=za G;have l2:=za y2;have ah:Hid (MS X d i M rules E s (jn y (Zm r)) v):=by rw[B];exact z6 (a5.out.noted _)
    have ab:Hid (KpM [d,i] w.heap.size w v):=by rw[B];exact z6 (KpM.noted ad.out _)
    have aj:=z6 G;clear B G y2 ao aA am an ay az cm lm aw;go_wp2_with fail;have a8:Below w.heap.size v ((v.setCell ⟨w.heap.size,0,N⟩ (I J (zN r))).setCell ⟨w.heap.size,1,N⟩ (.bool r.isSome)):=((Below.refl _ _).setCell (p:=⟨w.heap.size,0,N⟩) (Nat.le_refl _) _).setCell (p:=⟨w.heap.size,1,N⟩) (Nat.le_refl _) _;refine bodyPost_ret (results_cell_row rfl _ _ w.heap.size _ _ _ _ rfl (zo (zo aj.out _) _) underlying229 rfl (by kernel_rfl)) rfl ?_;exact⟨rfl,ah.out.low K.out.1 K.out.2 a8,ab.out.low a8⟩
 ·go_enter func178,ntmps178;go_wp2_with fail;go_region;all_goals go_wp2_with fail
  all_goals
   obtain⟨m,q⟩:∃m,m=(((w.alloc (Obj.cells #[I J 0,.bool false] 229)).alloc (Obj.cells #[I J n,I J k] 328)).alloc (Obj.cells #[I J 0,.bool false,.nilIface] 231)).drew:=⟨_,rfl⟩;have a2:Below w.heap.size w m:=by rw[q];exact(Qs w _ _ _).drew
   have aq:m.heap.size=w.heap.size+3:=by rw[q];show(World.alloc _ _).heap.size=_;simp
   have g0:m.heap[w.heap.size]?=S (.cells #[I J 0,.bool false] 229 (0,0)):=by rw[q];show(World.alloc _ _).heap[w.heap.size]?=_;rw[zm _ _ (by simp;omega),zm _ _ (by simp)];exact zk _ _
   have g1:m.heap[w.heap.size+1]?=S (.cells #[I J n,I J k] 328 (0,0)):=by rw[q];show(World.alloc _ _).heap[w.heap.size+1]?=_;rw[zm _ _ (by simp)];have:=zk (w.alloc (Obj.cells #[I J 0,.bool false] 229)) (Obj.cells #[I J n,I J k] 328);simpa using this
   have g2:m.heap[w.heap.size+1+1]?=S (.cells #[I J 0,.bool false,.nilIface] 231 (0,0)):=by rw[q];show(World.alloc _ _).heap[w.heap.size+1+1]?=_;have:=zk ((w.alloc (Obj.cells #[I J 0,.bool false] 229)).alloc (Obj.cells #[I J n,I J k] 328)) (Obj.cells #[I J 0,.bool false,.nilIface] 231);simpa using this
   rw[<-q];refine(aB.out m (H.out.below a2)).mono ?_;rintro _ F⟨rfl,a9,z⟩;have A:∀b,w.heap.size<=b->b∉[d,i]:=λb hb=>by simp;have:=K.out.2;omega
   have i0:F.heap[w.heap.size]?=S (.cells #[I J 0,.bool false] 229 (0,0)):=by rw[z.block _ (by omega) (A _ (by omega))];exact g0
   have i1:F.heap[w.heap.size+1]?=S (.cells #[I J n,I J k] 328 (0,0)):=by rw[z.block _ (by omega) (A _ (by omega))];exact g1
   have D:F.heap[w.heap.size+1+1]?=S (.cells #[I J 0,.bool false,.nilIface] 231 (0,0)):=by rw[z.block _ (by omega) (A _ (by omega))];exact g2
   obtain⟨j,u⟩:∃j,j=(((F.setCell ⟨w.heap.size+1+1,0,N⟩ (I J (zN r))).setCell ⟨w.heap.size+1+1,1,N⟩ (.bool r.isSome)).setCell ⟨w.heap.size+1+1,2,N⟩ (.iface t x)):=⟨_,rfl⟩;have a1:Below w.heap.size F j:=by rw[u];exact(((Below.refl _ _).setCell (p:=⟨w.heap.size+1+1,0,N⟩) (by show w.heap.size<=w.heap.size+1+1;omega) _).setCell (p:=⟨w.heap.size+1+1,1,N⟩) (by show w.heap.size<=w.heap.size+1+1;omega) _).setCell (p:=⟨w.heap.size+1+1,2,N⟩) (by show w.heap.size<=w.heap.size+1+1;omega) _
   have a7:=a9.low K.out.1 K.out.2 a1;have j0:j.heap[w.heap.size]?=S (.cells #[I J 0,.bool false] 229 (0,0)):=by rw[u,Below.heap_setCell _ _ _ _ (by simp;omega),Below.heap_setCell _ _ _ _ (by simp;omega),Below.heap_setCell _ _ _ _ (by simp;omega)];exact i0
   have j1:j.heap[w.heap.size+1]?=S (.cells #[I J n,I J k] 328 (0,0)):=by rw[u,Below.heap_setCell _ _ _ _ (by simp),Below.heap_setCell _ _ _ _ (by simp),Below.heap_setCell _ _ _ _ (by simp)];exact i1
   have j2:j.heap[w.heap.size+1+1]?=S (.cells #[I J (zN r),.bool r.isSome,(.iface t x)] 231 (0,0)):=by rw[u,zo (zo (zo D _) _) _];rfl
   have a6:KpM [d,i] w.heap.size w j:=((KpM.of_below a2).trans (z.mono (by omega))).low a1;have a0:=z6 a7;have ae:=z6 a6;have al:=z8 D;have ap:=zi D;have ax:=za D;have ai:=z6 u;have Y:=z6 j0;have a4:=z6 j1;have R:=z6 j2;clear a9 z i0 i1 D g0 g1 g2 a7 a6 a1 a2 aq j0 j1 j2 u q k1 k2 k3 k4 c3 q2;have aa:Qb r=.agg #[I J (zN r),.bool r.isSome,(.iface t x)]:=by rw[a3.out]
   rw[aa];clear aa;go_wp2_with fail;rw[<-ai.out];clear al ap ax;have am:=z8 a4.out;have an:=z8 R.out;have ay:=za a4.out;have az:=za R.out;have cm:j.cell? ⟨d,2,N⟩=S (.map (S i)):=z8 a0.out.blk 2;have lm:=zd a0.out.blk;obtain⟨l,aw,a5,Z⟩:∃l,(Instr.mapUpdate 174 (.map (S i)) (.agg #[I J n,I J k]) (.agg #[I J (zN r),.bool r.isSome,(.iface t x)])).run P j.drew=.ok () l/\Hid (MS X d i M rules E s y l)/\Hid (KpM [d,i] j.heap.size j.drew l):=by obtain⟨o,h1,h2,h3⟩:=(a0.out.below (Below.refl _ _).drew).put HV.out;refine⟨_,?_,z6 h2,z6 h3⟩;rw[<-h1];simp only[Qb,Q0, <-a3.out]
   have m0:l.heap[w.heap.size]?=S (.cells #[I J 0,.bool false] 229 (0,0)):=by rw[Z.out.block _ (zd Y.out) (A _ (Nat.le_refl _))];exact Y.out
   have U:l.heap[w.heap.size+1+1]?=S (.cells #[I J (zN r),.bool r.isSome,(.iface t x)] 231 (0,0)):=by rw[Z.out.block _ (zd R.out) (A _ (by omega))];exact R.out
   have ad:Hid (KpM [d,i] w.heap.size w l):=z6 ((ae.out.low (Below.refl _ _).drew).trans (Z.out.mono (by have:=zd Y.out;omega)));have HN:Hid (∀O,ntV (Zm r)=O->Calls P 192 #[.pointer (S ⟨d,0,N⟩),O] l λe V=>e=.returned (.tuple #[])/\V=l.setCell ⟨d,3,N⟩ (ntV (jn y (Zm r)))):=z6 (λO hn=>hn▸KQ l d E s (.map (S i)) y (Zm r) a5.out.blk);have ao:=z8 U;have aA:=za U;have af:=z6 m0;have ag:=z6 U;clear m0 U;go_region;all_goals go_wp2_with fail
   all_goals
    refine(HN.out _ a3.out.symm).mono ?_;rintro _ v⟨rfl,B⟩;have ar:w.heap.size≠d:=by omega
    have au:w.heap.size+1+1≠d:=by omega
    have G:v.heap[w.heap.size]?=S (.cells #[I J 0,.bool false] 229 (0,0)):=by rw[B,Below.heap_setCell _ _ _ _ ar];exact af.out
    have y2:v.heap[w.heap.size+1+1]?=S (.cells #[I J (zN r),.bool r.isSome,(.iface t x)] 231 (0,0)):=by rw[B,Below.heap_setCell _ _ _ _ au];exact ag.out
    have z0:=z8 G;have z2:=z8 y2;have f0:=zi G;have l0:=za G;have l2:=za y2;have ah:Hid (MS X d i M rules E s (jn y (Zm r)) v):=by rw[B];exact z6 (a5.out.noted _)
    have ab:Hid (KpM [d,i] w.heap.size w v):=by rw[B];exact z6 (KpM.noted ad.out _)
    have aj:=z6 G;clear B G y2 ao aA am an ay az cm lm aw;go_wp2_with fail;have a8:Below w.heap.size v ((v.setCell ⟨w.heap.size,0,N⟩ (I J (zN r))).setCell ⟨w.heap.size,1,N⟩ (.bool r.isSome)):=((Below.refl _ _).setCell (p:=⟨w.heap.size,0,N⟩) (Nat.le_refl _) _).setCell (p:=⟨w.heap.size,1,N⟩) (Nat.le_refl _) _;refine bodyPost_ret (results_cell_row rfl _ _ w.heap.size _ _ _ _ rfl (zo (zo aj.out _) _) underlying229 rfl (by kernel_rfl)) rfl ?_;exact⟨rfl,ah.out.low K.out.1 K.out.2 a8,ab.out.low a8⟩
theorem zgX{j:World}{a b:Nat}{N:List Nd}{rules:List Nat}{i:Value}{s:ByteArray}(w:World)(g:Nat)(l:Array Value)(f n k:Nat)(r:Out)(d:Nt)(h:MS j a b N rules i s d w)(q:evN N rules s.data.toList f n k=S r)(x:∀(o:Array Value) (w:World),(callFunc g o).run P w=.ok (.enter g o) w)(v:∀W,MS j a b N rules i s .nil W->Calls P g (#[I J k]++l) W λe c=>e=.returned (Q9 r)/\MS j a b N rules i s (Zm r) c/\KpM [a,b] W.heap.size W c):Calls P 178 #[z9 a,I J n,.func (.func g) #[] l,I J k] w λe c=>e=.returned (Q9 r)/\MS j a b N rules i s (jn d (Zm r)) c/\KpM [a,b] w.heap.size w c:=by
 obtain⟨L,p,u⟩:=h.memo;cases m:ZK L n k with
 |none=>exact zgZ w g l f n k r d h L p m q x v|some t=>obtain⟨z,y⟩:=u n k t m;have:=zbu y q;subst this;exact zgY w _ n k t d h L p m
theorem zfy(a:Nt):jn a .nil=a:=by cases a<;>rfl
theorem VI(a:Nt):jn .nil a=a:=by cases a<;>rfl
def InR(a:z7)(F:NEv):Prop:=∀n k e m,k<=a.length->F n k=S (S (e,m))->k<=e/\e<=a.length
theorem zb8{b:z7}{F:NEv}(h:InR b F):∀c k e m,k<=b.length->chN F c k=S (S (e,m))->k<=e/\e<=b.length
 |[],k,e,m,_,a=>by simp[chN]at a
 |j::c,k,e,m,d,a=>by
  simp only[chN]at a;cases hF:F j k with
  |none=>rw[hF]at a;cases a
  |some o=>
   rw[hF]at a;cases o with
   |none=>exact zb8 h c k e m d a|some x=>cases a;exact h _ _ _ _ d hF
theorem zcT{c:z7}{F:NEv}(h:InR c F):∀d k b e m,k<=c.length->sqN F d k b=S (S (e,m))->k<=e/\e<=c.length
 |[],k,b,e,m,f,a=>by simp only[sqN,Option.some.injEq,Prod.mk.injEq]at a;omega
 |j::d,k,b,e,m,f,a=>by
  simp only[sqN]at a;cases hF:F j k with
  |none=>rw[hF]at a;cases a
  |some o=>
   rw[hF]at a;cases o with
   |none=>cases a|some x=>have g:=h _ _ _ _ f hF;have i:=zcT h d x.1 _ e m g.2 a;omega
theorem ze7{g:z7}{rules:List Nat}{F:NEv}(h:InR g F){n k e:Nat}{m:Nt}{d:Nd}(f:k<=g.length)(a:Zx rules g F n k d=S (S (e,m))):k<=e/\e<=g.length:=by
 cases d with
 |choice t=>exact zb8 h _ _ _ _ f a|seq t=>exact zcT h _ _ _ _ _ f a
 |ahead j w=>
  simp only[Zx]at a;cases hF:F j k with
  |none=>rw[hF]at a;cases a
  |some o=>
   rw[hF]at a;simp only[Option.map_some,Option.some.injEq,Ja]at a;split at a;·cases a;omega
   ·cases a
 |maybe j=>
  simp only[Zx]at a;cases hF:F j k with
  |none=>rw[hF]at a;cases a
  |some o=>
   rw[hF]at a;simp only[Option.map_some,Option.some.injEq,Kg]at a;cases o with
   |none=>cases a;omega|some x=>cases a;exact h _ _ _ _ f hF
 |plus j=>
  simp only[Zx,plN]at a;cases hF:F j k with
  |none=>rw[hF]at a;cases a
  |some o=>
   rw[hF]at a;cases o with
   |none=>cases a
   |some x=>
    have c:=h _ _ _ _ f hF;simp only[]at a;cases p:F n x.1 with
    |none=>rw[p]at a;cases a
    |some u=>
     rw[p]at a;cases u with
     |none=>cases a;exact c|some y=>have v:=h _ _ _ _ c.2 p;cases a;omega
 |name i=>
  simp only[Zx]at a;cases r:rules[i]? with
  |none=>rw[r]at a;cases a
  |some j=>
   rw[r]at a;simp only[]at a;cases hF:F j k with
   |none=>rw[hF]at a;cases a
   |some o=>
    rw[hF]at a;cases o with
    |none=>cases a
    |some x=>
     have c:=h _ _ _ _ f hF;simp only[Option.map_some,Option.some.injEq,QZ]at a;split at a;·cases a;exact c
     ·cases a;exact c
 |lit b=>
  simp only[Zx,Ya,Option.some.injEq]at a;split at a;·rename_i s;have:=(List.isPrefixOf_iff_prefix.mp s).length_le;rw[List.length_drop]at this;cases a;omega
  ·cases a
 |cls l=>
  simp only[Zx,Qj,Option.some.injEq]at a;split at a;·cases a
  ·rename_i q;have:=(List.getElem?_eq_some_iff.mp q).1;split at a;·cases a;omega
   ·cases a
 |any=>
  simp only[Zx,Qj,Option.some.injEq]at a;split at a;·cases a
  ·rename_i q;have:=(List.getElem?_eq_some_iff.mp q).1;split at a;·cases a;omega
   ·cases a
theorem UG(N:List Nd)(rules:List Nat)(a:z7):∀f,InR a (evN N rules a f)
 |0,_,_,_,_,_,h=>by cases h
 |f+1,n,k,e,m,c,h=>by
  simp only[evN]at h;cases b:N[n]? with
  |none=>rw[b]at h;cases h|some d=>rw[b]at h;exact ze7 (UG N rules a f) c h
theorem Mde.ne{c:World}{a:Nat}{N:List Nd}{d:List (Nat×Nat×Nat)}{rules:List Nat}{f:Value}(M:Mde c a N d rules f){b:Nat}{v:Value}{t:TypeId}(h:c.heap[b]?=S (zh v t)):b≠a:=by rintro rfl;obtain⟨i,j,g,e⟩:=M.mat;rw[e]at h;simp at h
theorem MS.box{c:World}{d i:Nat}{N:List Nd}{f:List (Nat×Nat×Nat)}{rules:List Nat}{e:Value}{s:ByteArray}{g:Nt}{w:World}(h:MS c d i N rules e s g w)(M:Mde c d N f rules e){b:Nat}{v:Value}{t:TypeId}(a:c.heap[b]?=S (zh v t)):w.heap[b]?=S (zh v t):=by rw[h.old b (zd a) (M.ne a)];exact a
abbrev Ye(g:World)(a b:Nat)(N:List Nd)(rules:List Nat)(f:Value)(s:ByteArray)(d:Nt)(r:Out)(W:World):Ending->World->Prop:=λe c=>e=.returned (Q9 r)/\MS g a b N rules f s (jn d (Zm r)) c/\KpM [a,b] W.heap.size W c
def zaH(b:World)(a i:Nat)(N:List Nd)(l:List (Nat×Nat×Nat))(rules:List Nat)(j:Value)(s:ByteArray)(f:Nat):Prop:=∀n d h k r,Inn b a l n h d->Zx rules s.data.toList (evN N rules s.data.toList f) n k d=S r->k<=s.size->∃g e,h=.func (.func g) #[] e/\(∀(c:Array Value) (w:World),(callFunc g c).run P w=.ok (.enter g c) w)/\∀W,MS b a i N rules j s .nil W->Calls P g (#[I J k]++e) W (Ye b a i N rules j s .nil r W)
def JE(g:World)(b d:Nat)(N:List Nd)(a:List (Nat×Nat×Nat))(rules:List Nat)(e:Value)(s:ByteArray)(f:Nat):Prop:=∀n k r c,evN N rules s.data.toList f n k=S r->k<=s.size->∀W,MS g b d N rules e s c W->Calls P 177 #[I J k,z9 (a.getD n (0,0,0)).1,z9 (a.getD n (0,0,0)).2.1,z9 (a.getD n (0,0,0)).2.2] W (Ye g b d N rules e s c r W)
theorem zet{u:World}{j o:Nat}{c:List Nd}{b:List (Nat×Nat×Nat)}{rules:List Nat}{q:Value}{s:ByteArray}(M:Mde u j c b rules q){f:Nat}(F:zaH u j o c b rules q s f):JE u j o c b rules q s (f+1):=by
 intro n k r X a hk w h;have V:=a;simp only[evN]at a;cases m:c[n]? with
 |none=>rw[m]at a;cases a
 |some d=>
  rw[m]at a;obtain⟨iv,B,D,E,O⟩:=M.clo n d m;obtain⟨g,a1,rfl,L,K⟩:=F n d _ k r O a hk;have y:=h.box M B;have z:=h.box M D;have A:=h.box M E;generalize (b.getD n (0,0,0)).1=x1 at *;generalize (b.getD n (0,0,0)).2.1=x2 at *;generalize (b.getD n (0,0,0)).2.2=x3 at *;have q1:=z8 y;have q2:=z8 z;have q3:=z8 A;have l1:=za y;have l2:=za z;have l3:=za A;have R:=λ(W:World) (hW:MS u j o c rules q s X W)=>zgX W g a1 (f+1) n k r X hW V L (λW1 a2=>(K W1 a2).mono (λe w' v=>⟨v.1,by have:=v.2.1;rwa[VI]at this,v.2.2⟩));have HO:=z6 R;have H:=z6 h;have l:=z6 (And.intro h.size h.tlt);clear R h O L K a V m B D E y z A F M;go_enter func177,ntmps177;go_wp2_with fail;refine(HO.out _ (H.out.below (zc w _))).mono ?_;rintro _ t⟨rfl,U,x⟩;have i:t.heap[w.heap.size]?=S (.cells #[I J 0,.bool false] 229 (0,0)):=by rw[x.block _ (by simp) (by simp;have:=l.out.2;have:=H.out.mlt;have:=l.out.1;omega)];exact zk _ _
  have z0:=z8 i;have f0:=zi i;have l0:=za i;have a0:=z6 U;have Z:Hid (KpM [j,o] w.heap.size w t):=z6 ((KpM.of_below (zc w _)).trans (x.mono (by simp)));have Y:=z6 i;clear U x i;go_wp2_with fail;have G:Below w.heap.size t ((t.setCell ⟨w.heap.size,0,N⟩ (I J (zN r))).setCell ⟨w.heap.size,1,N⟩ (.bool r.isSome)):=((Below.refl _ _).setCell (p:=⟨w.heap.size,0,N⟩) (Nat.le_refl _) _).setCell (p:=⟨w.heap.size,1,N⟩) (Nat.le_refl _) _;refine bodyPost_ret (results_cell_row rfl _ _ w.heap.size _ _ _ _ rfl (zo (zo Y.out _) _) underlying229 rfl (by kernel_rfl)) rfl ?_;exact⟨rfl,a0.out.low l.out.1 l.out.2 G,Z.out.low G⟩
end
end Go.Proofs.YtiganlkabilblaaGreatDoor
