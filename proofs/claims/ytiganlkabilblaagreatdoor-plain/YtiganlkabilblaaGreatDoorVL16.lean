import Derived.Test.YtiganlkabilblaaGreatDoorVL15
import Derived.Laws.ResultCell
set_option linter.all false
set_option maxHeartbeats 64000000
set_option maxRecDepth 100000
namespace Go.Proofs.YtiganlkabilblaaGreatDoor
open Go.RowKit Thk
attribute [local go_sem ↓] Go.wp_at_zero Go.wp_at_succ
theorem zgz (L:J3) (n k:Nat) (r:Out) (hn:ZK L n k=none) {a b:Nat} {v:Out} (h:ZK (L++[((n,k),r)]) a b=some v):ZK L a b=some v∨(a=n∧b=k∧v=r):=by
 unfold ZK at h ⊢
 rw[List.find?_append] at h
 cases hf:L.find? (fun p=>p.1.1 == a && p.1.2 == b) with
 | some p=>rw[hf] at h;exact .inl h
 | none=>
  rw[hf] at h
  simp only[Option.none_or,List.find?_cons,List.find?_nil] at h
  cases hb:(n == a && k == b) with
  | true=>
   rw[hb] at h
   simp only[Option.map_some,Option.some.injEq] at h
   simp only[Bool.and_eq_true,beq_iff_eq] at hb
   exact .inr ⟨hb.1.symm,hb.2.symm,h.symm⟩
  | false=>rw[hb] at h;cases h
theorem MS.put {wM:World} {mb tb:Nat} {N:List Nd} {rules:List Nat} {vr:Value} {s:ByteArray} {nt:Nt} {w:World} (h:MS wM mb tb N rules vr s nt w) {f n k:Nat} {r:Out} (hv:evN N rules s.data.toList f n k=some r) :
  ∃ o,(Instr.mapUpdate 174 (.map (some tb)) (Q0 n k) (Qb r)).run Tryz.prog w = .ok () (JU w tb o)∧MS wM mb tb N rules vr s nt (JU w tb o)∧KpM [mb,tb] w.heap.size w (JU w tb o):=by
 obtain⟨L,hL,hS⟩:=h.memo
 have hne:mb≠tb:=by have:=h.mlt;have:=h.tge;omega
 have hother:∀ o b,b≠tb→(JU w tb o).heap[b]? = w.heap[b]? := fun o b hb=>by
  show (w.heap.setIfInBounds tb o)[b]? = _
  rw[Array.getElem?_setIfInBounds_ne (fun e=>hb e.symm)]
 have hsz:∀ o,(JU w tb o).heap.size=w.heap.size:=fun o=>by
  show (w.heap.setIfInBounds tb o).size=_
  simp
 have hkp:∀ o,KpM [mb,tb] w.heap.size w (JU w tb o):=fun o=>⟨rfl,rfl,rfl,by rw[hsz o];exact Nat.le_refl _,fun b _ hb=>hother o b (fun e=>hb (by simp[e]))⟩
 have mk:∀ o L',Qz (JU w tb o) tb L'→(∀ a b v,ZK L' a b=some v→∃ f,evN N rules s.data.toList f a b=some v)→MS wM mb tb N rules vr s nt (JU w tb o):=fun o L' h1 h2=>
  ⟨by rw[hsz o];exact h.size,fun b hb1 hb2=>by rw[hother o b (by have:=h.tge;omega)];exact h.old b hb1 hb2,h.mlt,by rw[hother o mb hne];exact h.blk,h.tge,L',h1,h2⟩
 cases hm:ZK L n k with
 | none=>
  obtain⟨o,h1,h2⟩:=hL.put n k r hm
  refine⟨o,h1,mk o _ h2 ?_,hkp o⟩
  intro a b v hab
  rcases zgz L n k r hm hab with hab | ⟨rfl,rfl,rfl⟩
  ·exact hS a b v hab
  ·exact⟨f,hv⟩
 | some r0=>
  obtain⟨f0,hf0⟩:=hS n k r0 hm
  have:=zbu hf0 hv
  subst this
  obtain⟨o,h1,h2⟩:=hL.again n k r0 hm
  exact⟨o,h1,mk o L h2 hS,hkp o⟩
theorem zgZ {wM:World} {mb tb:Nat} {N:List Nd} {rules:List Nat} {vr:Value} {s:ByteArray} (w:World) (g:Nat) (caps:Array Value) (f n k:Nat) (r:Out) (nt:Nt) (h:MS wM mb tb N rules vr s nt w) (L:J3) (hL:Qz w tb L) (hm:ZK L n k=none) (hv:evN N rules s.data.toList f n k=some r)
  (hen:∀ (args:Array Value) (w:World),(callFunc g args).run Tryz.prog w = .ok (.enter g args) w)
  (he:∀ W,MS wM mb tb N rules vr s .nil W→Calls Tryz.prog g (#[.int .i64 k]++caps) W fun e w'=>e = .returned (Q9 r)∧MS wM mb tb N rules vr s (Zm r) w'∧KpM [mb,tb] W.heap.size W w') :
  Calls Tryz.prog 178 #[z9 mb,.int .i64 n,.func (.func g) #[] caps,.int .i64 k] w fun e w'=>e = .returned (Q9 r)∧MS wM mb tb N rules vr s (jn nt (Zm r)) w'∧KpM [mb,tb] w.heap.size w w':=by
 have q2:w.cell? ⟨mb,2,none⟩=some (.map (some tb)):=z8 h.blk 2
 have hl:=zd h.blk
 have c3:∀ a b c,(((w.alloc a).alloc b).alloc c).cell? ⟨mb,2,none⟩=some (.map (some tb)):=fun a b c=>by rw[(Qs w a b c).cell (p:=⟨mb,2,none⟩) hl];exact q2
 have k1:=fun a b=>hL.lookB n k (QY w a b)
 have k2:=fun a b=>hL.lookB n k (QY w a b).drew
 have k3:=fun a b c=>hL.lookB n k (Qs w a b c)
 have k4:=fun a b c=>hL.lookB n k (Qs w a b c).drew
 simp only[hm,Option.getD_none,Option.isSome_none,Q0,Qb,zN,Zm,ntV] at k1 k2 k3 k4
 have H:=z6 h
 have HV:=z6 hv
 have hap:=fun (W:World) (hW:MS wM mb tb N rules vr s nt W)=>zaY W g caps k r nt hW hen he
 have HAP:=z6 hap
 have HH:=z6 (And.intro H.out.size H.out.tlt)
 have hf:=QV (Zm r)
 obtain⟨nv,hnv⟩:∃ nv,nv=ntV (Zm r):=⟨_,rfl⟩
 have HNV:=z6 hnv
 rw[← hnv] at hf
 clear h hL hm he hen hv hap hnv
 rcases hf with rfl | ⟨t,x,rfl⟩
 ·go_enter Tryz.func178,Tryz.ntmps178
  go_wp2_with fail
  go_region
  all_goals go_wp2_with fail
  all_goals
   obtain⟨X0,hX0⟩:∃ X0,X0=(((w.alloc (Obj.cells #[.int .i64 0,.bool false] 229)).alloc (Obj.cells #[.int .i64 n,.int .i64 k] 328)).alloc (Obj.cells #[.int .i64 0,.bool false,.nilIface] 231)).drew:=⟨_,rfl⟩
   have hBX0:Below w.heap.size w X0:=by rw[hX0];exact (Qs w _ _ _).drew
   have hZ0:X0.heap.size=w.heap.size+3:=by rw[hX0];show (World.alloc _ _).heap.size=_;simp
   have g0:X0.heap[w.heap.size]? = some (.cells #[.int .i64 0,.bool false] 229 (0,0)):=by
    rw[hX0]
    show (World.alloc _ _).heap[w.heap.size]? = _
    rw[zm _ _ (by simp;omega),zm _ _ (by simp)];exact zk _ _
   have g1:X0.heap[w.heap.size+1]? = some (.cells #[.int .i64 n,.int .i64 k] 328 (0,0)):=by
    rw[hX0]
    show (World.alloc _ _).heap[w.heap.size+1]? = _
    rw[zm _ _ (by simp)]
    have:=zk (w.alloc (Obj.cells #[.int .i64 0,.bool false] 229)) (Obj.cells #[.int .i64 n,.int .i64 k] 328)
    simpa using this
   have g2:X0.heap[w.heap.size+1+1]? = some (.cells #[.int .i64 0,.bool false,.nilIface] 231 (0,0)):=by
    rw[hX0]
    show (World.alloc _ _).heap[w.heap.size+1+1]? = _
    have:=zk ((w.alloc (Obj.cells #[.int .i64 0,.bool false] 229)).alloc (Obj.cells #[.int .i64 n,.int .i64 k] 328)) (Obj.cells #[.int .i64 0,.bool false,.nilIface] 231)
    simpa using this
   rw[← hX0]
   refine (HAP.out X0 (H.out.below hBX0)).mono ?_
   rintro _ w1 ⟨rfl,hs1,hk1⟩
   have hni:∀ b,w.heap.size≤b→b ∉ [mb,tb]:=fun b hb=>by simp;have:=HH.out.2;omega
   have i0:w1.heap[w.heap.size]? = some (.cells #[.int .i64 0,.bool false] 229 (0,0)):=by rw[hk1.block _ (by omega) (hni _ (by omega))];exact g0
   have i1:w1.heap[w.heap.size+1]? = some (.cells #[.int .i64 n,.int .i64 k] 328 (0,0)):=by rw[hk1.block _ (by omega) (hni _ (by omega))];exact g1
   have i2:w1.heap[w.heap.size+1+1]? = some (.cells #[.int .i64 0,.bool false,.nilIface] 231 (0,0)):=by rw[hk1.block _ (by omega) (hni _ (by omega))];exact g2
   obtain⟨W3,hW3⟩:∃ W3,W3=(((w1.setCell ⟨w.heap.size+1+1,0,none⟩ (.int .i64 (zN r))).setCell ⟨w.heap.size+1+1,1,none⟩ (.bool r.isSome)).setCell ⟨w.heap.size+1+1,2,none⟩ .nilIface):=⟨_,rfl⟩
   have hB3:Below w.heap.size w1 W3:=by
    rw[hW3]
    exact (((Below.refl _ _).setCell (p:=⟨w.heap.size+1+1,0,none⟩) (by show w.heap.size≤w.heap.size+1+1;omega) _).setCell (p:=⟨w.heap.size+1+1,1,none⟩) (by show w.heap.size≤w.heap.size+1+1;omega) _).setCell (p:=⟨w.heap.size+1+1,2,none⟩) (by show w.heap.size≤w.heap.size+1+1;omega) _
   have hM3:=hs1.low HH.out.1 HH.out.2 hB3
   have j0:W3.heap[w.heap.size]? = some (.cells #[.int .i64 0,.bool false] 229 (0,0)):=by
    rw[hW3,Below.heap_setCell _ _ _ _ (by simp;omega),Below.heap_setCell _ _ _ _ (by simp;omega),Below.heap_setCell _ _ _ _ (by simp;omega)];exact i0
   have j1:W3.heap[w.heap.size+1]? = some (.cells #[.int .i64 n,.int .i64 k] 328 (0,0)):=by
    rw[hW3,Below.heap_setCell _ _ _ _ (by simp),Below.heap_setCell _ _ _ _ (by simp),Below.heap_setCell _ _ _ _ (by simp)];exact i1
   have j2:W3.heap[w.heap.size+1+1]? = some (.cells #[.int .i64 (zN r),.bool r.isSome,.nilIface] 231 (0,0)):=by
    rw[hW3,zo (zo (zo i2 _) _) _];rfl
   have hKX3:KpM [mb,tb] w.heap.size w W3:=((KpM.of_below hBX0).trans (hk1.mono (by omega))).low hB3
   have HM3:=z6 hM3
   have HKX3:=z6 hKX3
   have ci2:=z8 i2
   have fi2:=zi i2
   have li2:=za i2
   have HW3:=z6 hW3
   have HJ0:=z6 j0
   have HJ1:=z6 j1
   have HJ2:=z6 j2
   clear hs1 hk1 i0 i1 i2 g0 g1 g2 hM3 hKX3 hB3 hBX0 hZ0 j0 j1 j2 hW3 hX0 k1 k2 k3 k4 c3 q2
   have htv:Qb r = .agg #[.int .i64 (zN r),.bool r.isSome,.nilIface]:=by rw[HNV.out]
   rw[htv]
   clear htv
   go_wp2_with fail
   rw[← HW3.out]
   clear ci2 fi2 li2
   have cj1:=z8 HJ1.out
   have cj2:=z8 HJ2.out
   have lj1:=za HJ1.out
   have lj2:=za HJ2.out
   have cm:W3.cell? ⟨mb,2,none⟩=some (.map (some tb)):=z8 HM3.out.blk 2
   have lm:=zd HM3.out.blk
   obtain⟨W5,hput,HM5,HK5⟩:∃ W5,(Instr.mapUpdate 174 (.map (some tb)) (.agg #[.int .i64 n,.int .i64 k]) (.agg #[.int .i64 (zN r),.bool r.isSome,.nilIface])).run Tryz.prog W3.drew = .ok () W5∧Hid (MS wM mb tb N rules vr s nt W5)∧Hid (KpM [mb,tb] W3.heap.size W3.drew W5):=by
    obtain⟨o,h1,h2,h3⟩:=(HM3.out.below (Below.refl _ _).drew).put HV.out
    refine⟨_,?_,z6 h2,z6 h3⟩
    rw[← h1]
    simp only[Qb,Q0,← HNV.out]
   have m0:W5.heap[w.heap.size]? = some (.cells #[.int .i64 0,.bool false] 229 (0,0)):=by
    rw[HK5.out.block _ (zd HJ0.out) (hni _ (Nat.le_refl _))];exact HJ0.out
   have m2:W5.heap[w.heap.size+1+1]? = some (.cells #[.int .i64 (zN r),.bool r.isSome,.nilIface] 231 (0,0)):=by
    rw[HK5.out.block _ (zd HJ2.out) (hni _ (by omega))];exact HJ2.out
   have HKW:Hid (KpM [mb,tb] w.heap.size w W5):=z6 ((HKX3.out.low (Below.refl _ _).drew).trans (HK5.out.mono (by have:=zd HJ0.out;omega)))
   have HN:Hid (∀ nv,ntV (Zm r)=nv→Calls Tryz.prog 192 #[.pointer (some ⟨mb,0,none⟩),nv] W5 fun e w'=>e = .returned (.tuple #[])∧w'=W5.setCell ⟨mb,3,none⟩ (ntV (jn nt (Zm r)))):=z6 (fun nv hn=>hn ▸ KQ W5 mb vr s (.map (some tb)) nt (Zm r) HM5.out.blk)
   have cn2:=z8 m2
   have ln2:=za m2
   have HM0:=z6 m0
   have HM2:=z6 m2
   clear m0 m2
   go_region
   all_goals go_wp2_with fail
   all_goals
    refine (HN.out _ HNV.out.symm).mono ?_
    rintro _ w2 ⟨rfl,hw2⟩
    have hne0:w.heap.size≠mb:=by omega
    have hne2:w.heap.size+1+1≠mb:=by omega
    have y0:w2.heap[w.heap.size]? = some (.cells #[.int .i64 0,.bool false] 229 (0,0)):=by rw[hw2,Below.heap_setCell _ _ _ _ hne0];exact HM0.out
    have y2:w2.heap[w.heap.size+1+1]? = some (.cells #[.int .i64 (zN r),.bool r.isSome,.nilIface] 231 (0,0)):=by rw[hw2,Below.heap_setCell _ _ _ _ hne2];exact HM2.out
    have z0:=z8 y0
    have z2:=z8 y2
    have f0:=zi y0
    have l0:=za y0
    have l2:=za y2
    have HMM:Hid (MS wM mb tb N rules vr s (jn nt (Zm r)) w2):=by rw[hw2];exact z6 (HM5.out.noted _)
    have HKK:Hid (KpM [mb,tb] w.heap.size w w2):=by rw[hw2];exact z6 (KpM.noted HKW.out _)
    have HY0:=z6 y0
    clear hw2 y0 y2 cn2 ln2 cj1 cj2 lj1 lj2 cm lm hput
    go_wp2_with fail
    have hbf:Below w.heap.size w2 ((w2.setCell ⟨w.heap.size,0,none⟩ (.int .i64 (zN r))).setCell ⟨w.heap.size,1,none⟩ (.bool r.isSome)):=((Below.refl _ _).setCell (p:=⟨w.heap.size,0,none⟩) (Nat.le_refl _) _).setCell (p:=⟨w.heap.size,1,none⟩) (Nat.le_refl _) _
    refine bodyPost_ret (results_cell_row rfl _ _ w.heap.size _ _ _ _ rfl (zo (zo HY0.out _) _) Tryz.underlying229 rfl (by kernel_rfl)) rfl ?_
    exact⟨rfl,HMM.out.low HH.out.1 HH.out.2 hbf,HKK.out.low hbf⟩
 ·go_enter Tryz.func178,Tryz.ntmps178
  go_wp2_with fail
  go_region
  all_goals go_wp2_with fail
  all_goals
   obtain⟨X0,hX0⟩:∃ X0,X0=(((w.alloc (Obj.cells #[.int .i64 0,.bool false] 229)).alloc (Obj.cells #[.int .i64 n,.int .i64 k] 328)).alloc (Obj.cells #[.int .i64 0,.bool false,.nilIface] 231)).drew:=⟨_,rfl⟩
   have hBX0:Below w.heap.size w X0:=by rw[hX0];exact (Qs w _ _ _).drew
   have hZ0:X0.heap.size=w.heap.size+3:=by rw[hX0];show (World.alloc _ _).heap.size=_;simp
   have g0:X0.heap[w.heap.size]? = some (.cells #[.int .i64 0,.bool false] 229 (0,0)):=by
    rw[hX0]
    show (World.alloc _ _).heap[w.heap.size]? = _
    rw[zm _ _ (by simp;omega),zm _ _ (by simp)];exact zk _ _
   have g1:X0.heap[w.heap.size+1]? = some (.cells #[.int .i64 n,.int .i64 k] 328 (0,0)):=by
    rw[hX0]
    show (World.alloc _ _).heap[w.heap.size+1]? = _
    rw[zm _ _ (by simp)]
    have:=zk (w.alloc (Obj.cells #[.int .i64 0,.bool false] 229)) (Obj.cells #[.int .i64 n,.int .i64 k] 328)
    simpa using this
   have g2:X0.heap[w.heap.size+1+1]? = some (.cells #[.int .i64 0,.bool false,.nilIface] 231 (0,0)):=by
    rw[hX0]
    show (World.alloc _ _).heap[w.heap.size+1+1]? = _
    have:=zk ((w.alloc (Obj.cells #[.int .i64 0,.bool false] 229)).alloc (Obj.cells #[.int .i64 n,.int .i64 k] 328)) (Obj.cells #[.int .i64 0,.bool false,.nilIface] 231)
    simpa using this
   rw[← hX0]
   refine (HAP.out X0 (H.out.below hBX0)).mono ?_
   rintro _ w1 ⟨rfl,hs1,hk1⟩
   have hni:∀ b,w.heap.size≤b→b ∉ [mb,tb]:=fun b hb=>by simp;have:=HH.out.2;omega
   have i0:w1.heap[w.heap.size]? = some (.cells #[.int .i64 0,.bool false] 229 (0,0)):=by rw[hk1.block _ (by omega) (hni _ (by omega))];exact g0
   have i1:w1.heap[w.heap.size+1]? = some (.cells #[.int .i64 n,.int .i64 k] 328 (0,0)):=by rw[hk1.block _ (by omega) (hni _ (by omega))];exact g1
   have i2:w1.heap[w.heap.size+1+1]? = some (.cells #[.int .i64 0,.bool false,.nilIface] 231 (0,0)):=by rw[hk1.block _ (by omega) (hni _ (by omega))];exact g2
   obtain⟨W3,hW3⟩:∃ W3,W3=(((w1.setCell ⟨w.heap.size+1+1,0,none⟩ (.int .i64 (zN r))).setCell ⟨w.heap.size+1+1,1,none⟩ (.bool r.isSome)).setCell ⟨w.heap.size+1+1,2,none⟩ (.iface t x)):=⟨_,rfl⟩
   have hB3:Below w.heap.size w1 W3:=by
    rw[hW3]
    exact (((Below.refl _ _).setCell (p:=⟨w.heap.size+1+1,0,none⟩) (by show w.heap.size≤w.heap.size+1+1;omega) _).setCell (p:=⟨w.heap.size+1+1,1,none⟩) (by show w.heap.size≤w.heap.size+1+1;omega) _).setCell (p:=⟨w.heap.size+1+1,2,none⟩) (by show w.heap.size≤w.heap.size+1+1;omega) _
   have hM3:=hs1.low HH.out.1 HH.out.2 hB3
   have j0:W3.heap[w.heap.size]? = some (.cells #[.int .i64 0,.bool false] 229 (0,0)):=by
    rw[hW3,Below.heap_setCell _ _ _ _ (by simp;omega),Below.heap_setCell _ _ _ _ (by simp;omega),Below.heap_setCell _ _ _ _ (by simp;omega)];exact i0
   have j1:W3.heap[w.heap.size+1]? = some (.cells #[.int .i64 n,.int .i64 k] 328 (0,0)):=by
    rw[hW3,Below.heap_setCell _ _ _ _ (by simp),Below.heap_setCell _ _ _ _ (by simp),Below.heap_setCell _ _ _ _ (by simp)];exact i1
   have j2:W3.heap[w.heap.size+1+1]? = some (.cells #[.int .i64 (zN r),.bool r.isSome,(.iface t x)] 231 (0,0)):=by
    rw[hW3,zo (zo (zo i2 _) _) _];rfl
   have hKX3:KpM [mb,tb] w.heap.size w W3:=((KpM.of_below hBX0).trans (hk1.mono (by omega))).low hB3
   have HM3:=z6 hM3
   have HKX3:=z6 hKX3
   have ci2:=z8 i2
   have fi2:=zi i2
   have li2:=za i2
   have HW3:=z6 hW3
   have HJ0:=z6 j0
   have HJ1:=z6 j1
   have HJ2:=z6 j2
   clear hs1 hk1 i0 i1 i2 g0 g1 g2 hM3 hKX3 hB3 hBX0 hZ0 j0 j1 j2 hW3 hX0 k1 k2 k3 k4 c3 q2
   have htv:Qb r = .agg #[.int .i64 (zN r),.bool r.isSome,(.iface t x)]:=by rw[HNV.out]
   rw[htv]
   clear htv
   go_wp2_with fail
   rw[← HW3.out]
   clear ci2 fi2 li2
   have cj1:=z8 HJ1.out
   have cj2:=z8 HJ2.out
   have lj1:=za HJ1.out
   have lj2:=za HJ2.out
   have cm:W3.cell? ⟨mb,2,none⟩=some (.map (some tb)):=z8 HM3.out.blk 2
   have lm:=zd HM3.out.blk
   obtain⟨W5,hput,HM5,HK5⟩:∃ W5,(Instr.mapUpdate 174 (.map (some tb)) (.agg #[.int .i64 n,.int .i64 k]) (.agg #[.int .i64 (zN r),.bool r.isSome,(.iface t x)])).run Tryz.prog W3.drew = .ok () W5∧Hid (MS wM mb tb N rules vr s nt W5)∧Hid (KpM [mb,tb] W3.heap.size W3.drew W5):=by
    obtain⟨o,h1,h2,h3⟩:=(HM3.out.below (Below.refl _ _).drew).put HV.out
    refine⟨_,?_,z6 h2,z6 h3⟩
    rw[← h1]
    simp only[Qb,Q0,← HNV.out]
   have m0:W5.heap[w.heap.size]? = some (.cells #[.int .i64 0,.bool false] 229 (0,0)):=by
    rw[HK5.out.block _ (zd HJ0.out) (hni _ (Nat.le_refl _))];exact HJ0.out
   have m2:W5.heap[w.heap.size+1+1]? = some (.cells #[.int .i64 (zN r),.bool r.isSome,(.iface t x)] 231 (0,0)):=by
    rw[HK5.out.block _ (zd HJ2.out) (hni _ (by omega))];exact HJ2.out
   have HKW:Hid (KpM [mb,tb] w.heap.size w W5):=z6 ((HKX3.out.low (Below.refl _ _).drew).trans (HK5.out.mono (by have:=zd HJ0.out;omega)))
   have HN:Hid (∀ nv,ntV (Zm r)=nv→Calls Tryz.prog 192 #[.pointer (some ⟨mb,0,none⟩),nv] W5 fun e w'=>e = .returned (.tuple #[])∧w'=W5.setCell ⟨mb,3,none⟩ (ntV (jn nt (Zm r)))):=z6 (fun nv hn=>hn ▸ KQ W5 mb vr s (.map (some tb)) nt (Zm r) HM5.out.blk)
   have cn2:=z8 m2
   have ln2:=za m2
   have HM0:=z6 m0
   have HM2:=z6 m2
   clear m0 m2
   go_region
   all_goals go_wp2_with fail
   all_goals
    refine (HN.out _ HNV.out.symm).mono ?_
    rintro _ w2 ⟨rfl,hw2⟩
    have hne0:w.heap.size≠mb:=by omega
    have hne2:w.heap.size+1+1≠mb:=by omega
    have y0:w2.heap[w.heap.size]? = some (.cells #[.int .i64 0,.bool false] 229 (0,0)):=by rw[hw2,Below.heap_setCell _ _ _ _ hne0];exact HM0.out
    have y2:w2.heap[w.heap.size+1+1]? = some (.cells #[.int .i64 (zN r),.bool r.isSome,(.iface t x)] 231 (0,0)):=by rw[hw2,Below.heap_setCell _ _ _ _ hne2];exact HM2.out
    have z0:=z8 y0
    have z2:=z8 y2
    have f0:=zi y0
    have l0:=za y0
    have l2:=za y2
    have HMM:Hid (MS wM mb tb N rules vr s (jn nt (Zm r)) w2):=by rw[hw2];exact z6 (HM5.out.noted _)
    have HKK:Hid (KpM [mb,tb] w.heap.size w w2):=by rw[hw2];exact z6 (KpM.noted HKW.out _)
    have HY0:=z6 y0
    clear hw2 y0 y2 cn2 ln2 cj1 cj2 lj1 lj2 cm lm hput
    go_wp2_with fail
    have hbf:Below w.heap.size w2 ((w2.setCell ⟨w.heap.size,0,none⟩ (.int .i64 (zN r))).setCell ⟨w.heap.size,1,none⟩ (.bool r.isSome)):=((Below.refl _ _).setCell (p:=⟨w.heap.size,0,none⟩) (Nat.le_refl _) _).setCell (p:=⟨w.heap.size,1,none⟩) (Nat.le_refl _) _
    refine bodyPost_ret (results_cell_row rfl _ _ w.heap.size _ _ _ _ rfl (zo (zo HY0.out _) _) Tryz.underlying229 rfl (by kernel_rfl)) rfl ?_
    exact⟨rfl,HMM.out.low HH.out.1 HH.out.2 hbf,HKK.out.low hbf⟩
theorem zgX {wM:World} {mb tb:Nat} {N:List Nd} {rules:List Nat} {vr:Value} {s:ByteArray} (w:World) (g:Nat) (caps:Array Value) (f n k:Nat) (r:Out) (nt:Nt) (h:MS wM mb tb N rules vr s nt w) (hv:evN N rules s.data.toList f n k=some r)
  (hen:∀ (args:Array Value) (w:World),(callFunc g args).run Tryz.prog w = .ok (.enter g args) w)
  (he:∀ W,MS wM mb tb N rules vr s .nil W→Calls Tryz.prog g (#[.int .i64 k]++caps) W fun e w'=>e = .returned (Q9 r)∧MS wM mb tb N rules vr s (Zm r) w'∧KpM [mb,tb] W.heap.size W w') :
  Calls Tryz.prog 178 #[z9 mb,.int .i64 n,.func (.func g) #[] caps,.int .i64 k] w fun e w'=>e = .returned (Q9 r)∧MS wM mb tb N rules vr s (jn nt (Zm r)) w'∧KpM [mb,tb] w.heap.size w w':=by
 obtain⟨L,hL,hS⟩:=h.memo
 cases hm:ZK L n k with
 | none=>exact zgZ w g caps f n k r nt h L hL hm hv hen he
 | some r0=>
  obtain⟨f0,hf0⟩:=hS n k r0 hm
  have:=zbu hf0 hv
  subst this
  exact zgY w _ n k r0 nt h L hL hm
theorem zfy (a:Nt):jn a .nil=a:=by cases a<;>rfl
theorem VI (a:Nt):jn .nil a=a:=by cases a<;>rfl
def InR (inp:z7) (F:NEv):Prop:=∀ n k e m,k≤inp.length→F n k=some (some (e,m))→k≤e∧e≤inp.length
theorem zb8 {inp:z7} {F:NEv} (h:InR inp F):∀ js k e m,k≤inp.length→chN F js k=some (some (e,m))→k≤e∧e≤inp.length
 | [],k,e,m,_,hv=>by simp[chN] at hv
 | j::js,k,e,m,hk,hv=>by
  simp only[chN] at hv
  cases hF:F j k with
  | none=>rw[hF] at hv;cases hv
  | some o=>
   rw[hF] at hv
   cases o with
   | none=>exact zb8 h js k e m hk hv
   | some x=>cases hv;exact h _ _ _ _ hk hF
theorem zcT {inp:z7} {F:NEv} (h:InR inp F):∀ js k acc e m,k≤inp.length→sqN F js k acc=some (some (e,m))→k≤e∧e≤inp.length
 | [],k,acc,e,m,hk,hv=>by simp only[sqN,Option.some.injEq,Prod.mk.injEq] at hv;omega
 | j::js,k,acc,e,m,hk,hv=>by
  simp only[sqN] at hv
  cases hF:F j k with
  | none=>rw[hF] at hv;cases hv
  | some o=>
   rw[hF] at hv
   cases o with
   | none=>cases hv
   | some x=>
    have h1:=h _ _ _ _ hk hF
    have h2:=zcT h js x.1 _ e m h1.2 hv
    omega
theorem ze7 {inp:z7} {rules:List Nat} {F:NEv} (h:InR inp F) {n k e:Nat} {m:Nt} {d:Nd} (hk:k≤inp.length) (hv:Zx rules inp F n k d=some (some (e,m))):k≤e∧e≤inp.length:=by
 cases d with
 | choice ks=>exact zb8 h _ _ _ _ hk hv
 | seq ks=>exact zcT h _ _ _ _ _ hk hv
 | ahead j w=>
  simp only[Zx] at hv
  cases hF:F j k with
  | none=>rw[hF] at hv;cases hv
  | some o=>
   rw[hF] at hv
   simp only[Option.map_some,Option.some.injEq,Ja] at hv
   split at hv
   ·cases hv;omega
   ·cases hv
 | maybe j=>
  simp only[Zx] at hv
  cases hF:F j k with
  | none=>rw[hF] at hv;cases hv
  | some o=>
   rw[hF] at hv
   simp only[Option.map_some,Option.some.injEq,Kg] at hv
   cases o with
   | none=>cases hv;omega
   | some x=>cases hv;exact h _ _ _ _ hk hF
 | plus j=>
  simp only[Zx,plN] at hv
  cases hF:F j k with
  | none=>rw[hF] at hv;cases hv
  | some o=>
   rw[hF] at hv
   cases o with
   | none=>cases hv
   | some x=>
    have h1:=h _ _ _ _ hk hF
    simp only[] at hv
    cases hF2:F n x.1 with
    | none=>rw[hF2] at hv;cases hv
    | some o2=>
     rw[hF2] at hv
     cases o2 with
     | none=>cases hv;exact h1
     | some y=>
      have h2:=h _ _ _ _ h1.2 hF2
      cases hv
      omega
 | name i=>
  simp only[Zx] at hv
  cases hr:rules[i]? with
  | none=>rw[hr] at hv;cases hv
  | some j=>
   rw[hr] at hv
   simp only[] at hv
   cases hF:F j k with
   | none=>rw[hF] at hv;cases hv
   | some o=>
    rw[hF] at hv
    cases o with
    | none=>cases hv
    | some x=>
     have h1:=h _ _ _ _ hk hF
     simp only[Option.map_some,Option.some.injEq,QZ] at hv
     split at hv
     ·cases hv;exact h1
     ·cases hv;exact h1
 | lit b=>
  simp only[Zx,Ya,Option.some.injEq] at hv
  split at hv
  ·rename_i hp
   have:=(List.isPrefixOf_iff_prefix.mp hp).length_le
   rw[List.length_drop] at this
   cases hv
   omega
  ·cases hv
 | cls l=>
  simp only[Zx,Qj,Option.some.injEq] at hv
  split at hv
  ·cases hv
  ·rename_i hg
   have:=(List.getElem?_eq_some_iff.mp hg).1
   split at hv
   ·cases hv;omega
   ·cases hv
 | any=>
  simp only[Zx,Qj,Option.some.injEq] at hv
  split at hv
  ·cases hv
  ·rename_i hg
   have:=(List.getElem?_eq_some_iff.mp hg).1
   split at hv
   ·cases hv;omega
   ·cases hv
theorem UG (N:List Nd) (rules:List Nat) (inp:z7):∀ f,InR inp (evN N rules inp f)
 | 0,_,_,_,_,_,h=>by cases h
 | f+1,n,k,e,m,hk,h=>by
  simp only[evN] at h
  cases hn:N[n]? with
  | none=>rw[hn] at h;cases h
  | some d=>rw[hn] at h;exact ze7 (UG N rules inp f) hk h
theorem Mde.ne {wM:World} {mb:Nat} {N:List Nd} {bx:List (Nat × Nat × Nat)} {rules:List Nat} {vr:Value} (M:Mde wM mb N bx rules vr) {b:Nat} {v:Value} {t:TypeId} (h:wM.heap[b]? = some (zh v t)):b≠mb:=by
 rintro rfl
 obtain⟨sv,tv,nv,hm⟩:=M.mat
 rw[hm] at h
 simp at h
theorem MS.box {wM:World} {mb tb:Nat} {N:List Nd} {bx:List (Nat × Nat × Nat)} {rules:List Nat} {vr:Value} {s:ByteArray} {nt:Nt} {w:World} (h:MS wM mb tb N rules vr s nt w) (M:Mde wM mb N bx rules vr) {b:Nat} {v:Value} {t:TypeId} (hb:wM.heap[b]? = some (zh v t)):w.heap[b]? = some (zh v t):=by
 rw[h.old b (zd hb) (M.ne hb)];exact hb
abbrev Ye (wM:World) (mb tb:Nat) (N:List Nd) (rules:List Nat) (vr:Value) (s:ByteArray) (nt:Nt) (r:Out) (W:World):Ending→World→Prop:=fun e w'=>e = .returned (Q9 r)∧MS wM mb tb N rules vr s (jn nt (Zm r)) w'∧KpM [mb,tb] W.heap.size W w'
def zaH (wM:World) (mb tb:Nat) (N:List Nd) (bx:List (Nat × Nat × Nat)) (rules:List Nat) (vr:Value) (s:ByteArray) (f:Nat):Prop:=
 ∀ n d iv k r,Inn wM mb bx n iv d→Zx rules s.data.toList (evN N rules s.data.toList f) n k d=some r→k≤s.size →
  ∃ g caps,iv = .func (.func g) #[] caps∧(∀ (args:Array Value) (w:World),(callFunc g args).run Tryz.prog w = .ok (.enter g args) w) ∧
   ∀ W,MS wM mb tb N rules vr s .nil W→Calls Tryz.prog g (#[.int .i64 k]++caps) W (Ye wM mb tb N rules vr s .nil r W)
def JE (wM:World) (mb tb:Nat) (N:List Nd) (bx:List (Nat × Nat × Nat)) (rules:List Nat) (vr:Value) (s:ByteArray) (f:Nat):Prop:=
 ∀ n k r nt,evN N rules s.data.toList f n k=some r→k≤s.size→∀ W,MS wM mb tb N rules vr s nt W →
  Calls Tryz.prog 177 #[.int .i64 k,z9 (bx.getD n (0,0,0)).1,z9 (bx.getD n (0,0,0)).2.1,z9 (bx.getD n (0,0,0)).2.2] W (Ye wM mb tb N rules vr s nt r W)
theorem zet {wM:World} {mb tb:Nat} {N:List Nd} {bx:List (Nat × Nat × Nat)} {rules:List Nat} {vr:Value} {s:ByteArray} (M:Mde wM mb N bx rules vr) {f:Nat} (hI:zaH wM mb tb N bx rules vr s f):JE wM mb tb N bx rules vr s (f+1):=by
 intro n k r nt hv hk w h
 have hv0:=hv
 simp only[evN] at hv
 cases hn:N[n]? with
 | none=>rw[hn] at hv;cases hv
 | some d=>
  rw[hn] at hv
  obtain⟨iv,b1,b2,b3,hin⟩:=M.clo n d hn
  obtain⟨g,caps,rfl,hen,he⟩:=hI n d _ k r hin hv hk
  have p1:=h.box M b1
  have p2:=h.box M b2
  have p3:=h.box M b3
  generalize (bx.getD n (0,0,0)).1=x1 at *
  generalize (bx.getD n (0,0,0)).2.1=x2 at *
  generalize (bx.getD n (0,0,0)).2.2=x3 at *
  have q1:=z8 p1
  have q2:=z8 p2
  have q3:=z8 p3
  have l1:=za p1
  have l2:=za p2
  have l3:=za p3
  have honce:=fun (W:World) (hW:MS wM mb tb N rules vr s nt W)=>zgX W g caps (f+1) n k r nt hW hv0 hen (fun W1 hW1=>(he W1 hW1).mono (fun e w' hh=>⟨hh.1,by have:=hh.2.1;rwa [VI] at this,hh.2.2⟩))
  have HO:=z6 honce
  have H:=z6 h
  have HH:=z6 (And.intro h.size h.tlt)
  clear honce h hin hen he hv hv0 hn b1 b2 b3 p1 p2 p3 hI M
  go_enter Tryz.func177,Tryz.ntmps177
  go_wp2_with fail
  refine (HO.out _ (H.out.below (zc w _))).mono ?_
  rintro _ w1 ⟨rfl,hs1,hk1⟩
  have hb0:w1.heap[w.heap.size]? = some (.cells #[.int .i64 0,.bool false] 229 (0,0)):=by
   rw[hk1.block _ (by simp) (by simp;have:=HH.out.2;have:=H.out.mlt;have:=HH.out.1;omega)]
   exact zk _ _
  have z0:=z8 hb0
  have f0:=zi hb0
  have l0:=za hb0
  have HS1:=z6 hs1
  have HK1:Hid (KpM [mb,tb] w.heap.size w w1):=z6 ((KpM.of_below (zc w _)).trans (hk1.mono (by simp)))
  have HB0:=z6 hb0
  clear hs1 hk1 hb0
  go_wp2_with fail
  have hbf:Below w.heap.size w1 ((w1.setCell ⟨w.heap.size,0,none⟩ (.int .i64 (zN r))).setCell ⟨w.heap.size,1,none⟩ (.bool r.isSome)):=((Below.refl _ _).setCell (p:=⟨w.heap.size,0,none⟩) (Nat.le_refl _) _).setCell (p:=⟨w.heap.size,1,none⟩) (Nat.le_refl _) _
  refine bodyPost_ret (results_cell_row rfl _ _ w.heap.size _ _ _ _ rfl (zo (zo HB0.out _) _) Tryz.underlying229 rfl (by kernel_rfl)) rfl ?_
  exact⟨rfl,HS1.out.low HH.out.1 HH.out.2 hbf,HK1.out.low hbf⟩
abbrev ZR:Obj:=.cells #[.int .i64 0,.bool false] 229 (0,0)
theorem JE.at {wM:World} {mb tb:Nat} {N:List Nd} {bx:List (Nat × Nat × Nat)} {rules:List Nat} {vr:Value} {s:ByteArray} {f:Nat} (hC:JE wM mb tb N bx rules vr s f) {n k:Nat} {r:Out} {nt:Nt} (hv:evN N rules s.data.toList f n k=some r) (hk:k≤s.size) {B:Nat} {w W:World} (hW:MS wM mb tb N rules vr s nt W) (hK:KpM [mb,tb] B w W) (hB:B≤W.heap.size) :
  Calls Tryz.prog 177 #[.int .i64 k,z9 (bx.getD n (0,0,0)).1,z9 (bx.getD n (0,0,0)).2.1,z9 (bx.getD n (0,0,0)).2.2] W fun e w'=>e = .returned (Q9 r)∧MS wM mb tb N rules vr s (jn nt (Zm r)) w'∧KpM [mb,tb] B w w'∧W.heap.size≤w'.heap.size∧∀ b,b<W.heap.size→b≠mb→b≠tb→w'.heap[b]? = W.heap[b]? := by
 refine (hC n k r nt hv hk W hW).mono ?_
 rintro e w' ⟨h1,h2,h3⟩
 exact⟨h1,h2,hK.trans (h3.mono hB),h3.size,fun b hb h4 h5=>h3.block b hb (by simp[h4,h5])⟩
theorem Jw {w1:World} {b:Nat} (h:w1.heap[b]? = some ZR) (v1 v2:Value):((w1.setCell ⟨b,0,none⟩ v1).setCell ⟨b,1,none⟩ v2).heap[b]? = some (.cells #[v1,v2] 229 (0,0)):=by
 rw[zo (zo h _) _];rfl
theorem KB {w1:World} {b:Nat} (h:w1.heap[b]? = some ZR) (v1 v2:Value) (o:Obj):(((w1.setCell ⟨b,0,none⟩ v1).setCell ⟨b,1,none⟩ v2).alloc o).heap[b]? = some (.cells #[v1,v2] 229 (0,0)):=by
 have:=zd h
 rw[zm _ _ (by simp[World.setCell];omega)];exact Jw h _ _
theorem QT (w1:World) (b:Nat) (v1 v2:Value):Below b w1 ((w1.setCell ⟨b,0,none⟩ v1).setCell ⟨b,1,none⟩ v2):=((Below.refl _ _).setCell (p:=⟨b,0,none⟩) (Nat.le_refl _) _).setCell (p:=⟨b,1,none⟩) (Nat.le_refl _) _
theorem KA {w1:World} {b:Nat} (h:b≤w1.heap.size) (v1 v2:Value) (o:Obj):Below b w1 (((w1.setCell ⟨b,0,none⟩ v1).setCell ⟨b,1,none⟩ v2).alloc o):=(QT w1 b v1 v2).alloc (by simpa [World.setCell] using h) o
theorem zfm {wM:World} {mb tb:Nat} {N:List Nd} {bx:List (Nat × Nat × Nat)} {rules:List Nat} {vr:Value} {s:ByteArray} (M:Mde wM mb N bx rules vr) {f:Nat} (hC:JE wM mb tb N bx rules vr s f) (j be:Nat) (hb:wM.heap[be]? = some (zh (clV bx j) 226)) (k:Nat) (o:Out) (hv:evN N rules s.data.toList f j k=some o) (hk:k≤s.size) (w:World) (h:MS wM mb tb N rules vr s .nil w) :
  Calls Tryz.prog 212 #[.int .i64 k,z9 be] w (Ye wM mb tb N rules vr s .nil (Kg k o) w):=by
 have p1:=h.box M hb
 have q1:=z8 p1
 have l1:=za p1
 simp only[clV,zT] at q1
 have HC:=z6 (hC.at (nt:=.nil) hv hk (h.below (zc w ZR)) (KpM.of_below (zc w ZR)) (by simp))
 have HH:=z6 (And.intro h.size (And.intro h.tlt h.mlt))
 clear h hC hv hb M p1
 generalize (bx.getD j (0,0,0)).1=x1 at *
 generalize (bx.getD j (0,0,0)).2.1=x2 at *
 generalize (bx.getD j (0,0,0)).2.2=x3 at *
 go_enter Tryz.func212,Tryz.ntmps212
 go_wp2_with fail
 refine HC.out.mono ?_
 rintro _ w1 ⟨rfl,hs1,hk1,hz1,hb1⟩
 have hb0:w1.heap[w.heap.size]? = some ZR:=by
  rw[hb1 _ (by simp) (by have:=HH.out;omega) (by have:=HH.out;omega)]
  exact zk _ _
 have z0:=z8 hb0
 have f0:=zi hb0
 have l0:=za hb0
 have HS1:=z6 hs1
 have HK1:=z6 hk1
 have HB0:=z6 hb0
 clear hs1 hk1 hb0 hb1 hz1
 cases o with
 | none=>
  have ho:Q9 none = .agg #[.int .i64 0,.bool false]:=rfl
  rw[ho]
  go_wp2_with fail
  refine bodyPost_ret (results_cell_row rfl _ _ w.heap.size _ _ _ _ rfl (KB HB0.out _ _ _) Tryz.underlying229 rfl (by kernel_rfl)) rfl ?_
  have hbf:=KA (Nat.le_of_lt (zd HB0.out))
  exact⟨rfl,HS1.out.low HH.out.1 HH.out.2.1 (hbf _ _ _),HK1.out.low (hbf _ _ _)⟩
 | some x=>
  have ho:Q9 (some x) = .agg #[.int .i64 x.1,.bool true]:=rfl
  rw[ho]
  go_wp2_with fail
  refine bodyPost_ret (results_cell_row rfl _ _ w.heap.size _ _ _ _ rfl (KB HB0.out _ _ _) Tryz.underlying229 rfl (by kernel_rfl)) rfl ?_
  have hbf:=KA (Nat.le_of_lt (zd HB0.out))
  exact⟨rfl,HS1.out.low HH.out.1 HH.out.2.1 (hbf _ _ _),HK1.out.low (hbf _ _ _)⟩
theorem zfo {wM:World} {mb tb:Nat} {N:List Nd} {bx:List (Nat × Nat × Nat)} {rules:List Nat} {vr:Value} {s:ByteArray} (M:Mde wM mb N bx rules vr) {f:Nat} (hC:JE wM mb tb N bx rules vr s f) (n j be bp:Nat) (hb:wM.heap[be]? = some (zh (clV bx j) 226)) (hp:wM.heap[bp]? = some (zh (clV bx n) 226)) (k:Nat) (r:Out) (hv:plN (evN N rules s.data.toList f) n j k=some r) (hk:k≤s.size) (w:World) (h:MS wM mb tb N rules vr s .nil w) :
  Calls Tryz.prog 213 #[.int .i64 k,z9 be,z9 bp] w (Ye wM mb tb N rules vr s .nil r w):=by
 unfold plN at hv
 cases ho1:evN N rules s.data.toList f j k with
 | none=>rw[ho1] at hv;cases hv
 | some o=>
 rw[ho1] at hv
 have p1:=h.box M hb
 have p2:=h.box M hp
 have q1:=z8 p1
 have q2:=z8 p2
 have l1:=za p1
 have l2:=za p2
 have l1':=zd p1
 have l2':=zd p2
 have n1:=M.ne hb
 have n2:=M.ne hp
 have n1t:be≠tb:=fun e=>by have:=zd hb;have:=h.tge;omega
 have n2t:bp≠tb:=fun e=>by have:=zd hp;have:=h.tge;omega
 simp only[clV,zT] at q1 q2
 have HP2:=z6 p2
 have HC:=z6 (hC.at (nt:=.nil) ho1 hk (h.below (zc w ZR)) (KpM.of_below (zc w ZR)) (by simp))
 have HCC:=z6 hC
 have HH:=z6 (And.intro h.size (And.intro h.tlt h.mlt))
 clear h hC hb hp M p1 p2
 generalize hy1:(bx.getD j (0,0,0)).1=x1 at *
 generalize hy2:(bx.getD j (0,0,0)).2.1=x2 at *
 generalize hy3:(bx.getD j (0,0,0)).2.2=x3 at *
 have HV:=z6 hv
 have HO1:=z6 ho1
 clear hy1 hy2 hy3 hv ho1
 go_enter Tryz.func213,Tryz.ntmps213
 go_wp2_with fail
 refine HC.out.mono ?_
 rintro _ w1 ⟨rfl,hs1,hk1,hz1,hb1⟩
 have hb0:w1.heap[w.heap.size]? = some ZR:=by
  rw[hb1 _ (by simp) (by have:=HH.out;omega) (by have:=HH.out;omega)]
  exact zk _ _
 have hq2:w1.heap[bp]? = some (zh (clV bx n) 226):=by
  rw[hb1 _ (by simp;omega) n2 n2t,zm _ _ l2'];exact HP2.out
 have z0:=z8 hb0
 have f0:=zi hb0
 have l0:=za hb0
 have HS1:=z6 hs1
 have HK1:=z6 hk1
 have HB0:=z6 hb0
 have HZ1:=z6 hz1
 have z2:=z8 hq2
 have lz2:=za hq2
 have HQ2:=z6 hq2
 simp only[clV,zT] at z2
 clear hs1 hk1 hb0 hb1 hz1 q1 q2 hq2
 cases o with
 | none=>
  have ho:Q9 none = .agg #[.int .i64 0,.bool false]:=rfl
  rw[ho]
  have hr:=HV.out
  simp only[Option.some.injEq] at hr
  subst hr
  go_wp2_with fail
  refine bodyPost_ret (results_cell_row rfl _ _ w.heap.size _ _ _ _ rfl (KB HB0.out _ _ _) Tryz.underlying229 rfl (by kernel_rfl)) rfl ?_
  have hbf:=KA (Nat.le_of_lt (zd HB0.out))
  exact⟨rfl,HS1.out.low HH.out.1 HH.out.2.1 (hbf _ _ _),HK1.out.low (hbf _ _ _)⟩
 | some x=>
  have hin:=UG N rules s.data.toList f _ _ _ _ (by simpa using hk) HO1.out
  have ho:Q9 (some x) = .agg #[.int .i64 x.1,.bool true]:=rfl
  rw[ho]
  have hv2:=HV.out
  simp only[] at hv2
  clear HV
  cases hw2:evN N rules s.data.toList f n x.1 with
  | none=>rw[hw2] at hv2;cases hv2
  | some o2=>
   rw[hw2] at hv2
   have hB2:Below w.heap.size w1 (w1.alloc (.cells #[.int .i64 x.1,.bool true] 229)):=(Below.refl _ _).alloc (Nat.le_of_lt (zd HB0.out)) _
   have HC2:=z6 (HCC.out.at (nt:=jn .nil (Zm (some x))) hw2 (by simpa using hin.2) (HS1.out.low HH.out.1 HH.out.2.1 hB2) (HK1.out.low hB2) (by have:=zd HB0.out;simp;omega))
   have HHI:=z6 hin
   have HV2:=z6 hv2
   generalize hy1:(bx.getD n (0,0,0)).1=x1 at *
   generalize hy2:(bx.getD n (0,0,0)).2.1=x2 at *
   generalize hy3:(bx.getD n (0,0,0)).2.2=x3 at *
   clear hin hv2 hw2 hB2 hy1 hy2 hy3
   go_wp2_with fail
   refine HC2.out.mono ?_
   rintro _ w2 ⟨rfl,hs2,hk2,hz2,hb2⟩
   have hc0:w2.heap[w.heap.size]? = some ZR:=by
    have:=zd HB0.out
    rw[hb2 _ (by simp;omega) (by have:=HH.out;omega) (by have:=HH.out;omega),zm _ _ this]
    exact HB0.out
   have hc1:w2.heap[w1.heap.size]? = some (.cells #[.int .i64 x.1,.bool true] 229 (0,0)):=by
    have:=zd HB0.out
    rw[hb2 _ (by simp) (by have:=HH.out;omega) (by have:=HH.out;omega)]
    exact zk _ _
   have y0:=z8 hc0
   have g0:=zi hc0
   have m0:=za hc0
   have y1:=z8 hc1
   have m1:=za hc1
   have HS2:=z6 hs2
   have HK2:=z6 hk2
   have HC0:=z6 hc0
   clear hs2 hk2 hc0 hc1 hz2 hb2 z2 z0 f0 lz2 l0
   cases o2 with
   | none=>
    have ho:Q9 none = .agg #[.int .i64 0,.bool false]:=rfl
    rw[ho]
    have hr:=HV2.out
    simp only[Option.some.injEq] at hr
    subst hr
    go_wp2_with fail
    refine bodyPost_ret (results_cell_row rfl _ _ w.heap.size _ _ _ _ rfl (KB HC0.out _ _ _) Tryz.underlying229 rfl (by kernel_rfl)) rfl ?_
    have hbf:=KA (Nat.le_of_lt (zd HC0.out))
    refine⟨rfl,?_,HK2.out.low (hbf _ _ _)⟩
    have:=HS2.out.low HH.out.1 HH.out.2.1 (hbf (.int .i64 x.1) (.bool true) (.cells #[.int .i64 0,.bool false] 229 (0,0)))
    simp only[Zm,zfy] at this
    exact this
   | some y=>
    have ho:Q9 (some y) = .agg #[.int .i64 y.1,.bool true]:=rfl
    rw[ho]
    have hr:=HV2.out
    simp only[Option.some.injEq] at hr
    subst hr
    go_wp2_with fail
    refine bodyPost_ret (results_cell_row rfl _ _ w.heap.size _ _ _ _ rfl (KB HC0.out _ _ _) Tryz.underlying229 rfl (by kernel_rfl)) rfl ?_
    have hbf:=KA (Nat.le_of_lt (zd HC0.out))
    refine⟨rfl,?_,HK2.out.low (hbf _ _ _)⟩
    have:=HS2.out.low HH.out.1 HH.out.2.1 (hbf (.int .i64 y.1) (.bool true) (.cells #[.int .i64 y.1,.bool true] 229 (0,0)))
    simp only[Zm,VI] at this ⊢
    exact this
def J1 (i k:Nat):Out→Value
 | none=>.agg #[.int .i64 0,.int .i64 0,.int .i64 0,.nilIface]
 | some x=>.agg #[.int .i64 i,.int .i64 k,.int .i64 x.1,ntV x.2]
theorem KS {P:Program} {fn:Func} {p u:Tmp} {ty:TypeId} (h:fn.results = #[.cell p ty,.tmp u]) (tmps:Array Value) (w:World) (g:Nat) (t:TypeId) (cs:Array Value) (fr:Nat × Nat) (d:TypeDesc)
  (hp:tmps.getD p undef = .pointer (some ⟨g,0,none⟩)) (hg:w.heap[g]? = some (.cells cs t fr))
  (hu:P.underlying ty=some d) (hd:(match d with | .struct _ | .array _ _=>true | _=>false)=true) (hi:(P.info? ty).map (·.size)=some cs.size) :
  (results fn tmps).run P w = .ok (.tuple #[.agg cs,tmps.getD u undef]) w:=by
 rw[results_cell_tmp h,hp]
 simp[asAddr,run_loadVar_row w g t ty cs fr d hg hu hd hi,Result.andThen]
abbrev JD:Obj:=.cells #[.int .i64 0,.int .i64 0,.int .i64 0,.nilIface] 108 (0,0)
theorem zdi {wM:World} {mb tb:Nat} {N:List Nd} {bx:List (Nat × Nat × Nat)} {rules:List Nat} {vr:Value} {s:ByteArray} (M:Mde wM mb N bx rules vr) {f:Nat} (hC:JE wM mb tb N bx rules vr s f) (i j k:Nat) (o:Out) (hi:rules[i]? = some j) (hrl:rules.length≤100000) (hv:evN N rules s.data.toList f j k=some o) (hk:k≤s.size) (w:World) (nt:Nt) (h:MS wM mb tb N rules vr s nt w) :
  Calls Tryz.prog 84 #[z9 mb,.int .i64 i,.int .i64 k] w fun e w'=>e = .returned (.tuple #[J1 i k o,.bool o.isSome])∧MS wM mb tb N rules vr s nt w'∧KpM [mb,tb] w.heap.size w w':=by
 obtain⟨rb,rc,hvr,hrb,hrn,hcs⟩:=M.rul
 obtain⟨hil,hij⟩:=List.getElem?_eq_some_iff.mp hi
 have hc0:=hcs i hil
 rw[hij] at hc0
 have q0:w.cell? ⟨mb,0,none⟩=some (.slice (some ⟨rb,0,none⟩) rules.length rc):=by rw[← hvr];exact z8 h.blk 0
 have qi:w.cell? ⟨rb,i,none⟩=some (clV bx j):=by
  rw[← hc0]
  simp only[World.cell?,h.old rb hrb hrn]
 have hl:=zd h.blk
 have hlr:rb<w.heap.size:=Nat.lt_of_lt_of_le hrb h.size
 simp only[clV,zT] at qi
 have hap:=fun (W:World) (hW:MS wM mb tb N rules vr s nt W)=>zaY W 177 #[z9 (bx.getD j (0,0,0)).1,z9 (bx.getD j (0,0,0)).2.1,z9 (bx.getD j (0,0,0)).2.2] k o nt hW (fun args w=>by simp[go_sem]) (fun W1 hW1=>(hC j k o .nil hv hk W1 hW1).mono (fun e w' hh=>⟨hh.1,by have:=hh.2.1;rwa [VI] at this,hh.2.2⟩))
 have HAP:=z6 hap
 have HM:=z6 h
 have HH:=z6 (And.intro h.size (And.intro h.tlt h.mlt))
 have hiz:(i:Int)<(rules.length:Int):=by omega
 clear hap hC hv hcs hc0 hvr M h hij
 generalize (bx.getD j (0,0,0)).1=x1 at *
 generalize (bx.getD j (0,0,0)).2.1=x2 at *
 generalize (bx.getD j (0,0,0)).2.2=x3 at *
 go_enter Tryz.func84,Tryz.ntmps84
 go_wp2_with fail
 refine (HAP.out _ (HM.out.below (zc w _))).mono ?_
 rintro _ w1 ⟨rfl,hs1,hk1⟩
 have hb0:w1.heap[w.heap.size]? = some JD:=by
  rw[hk1.block _ (by simp) (by simp;have:=HH.out;omega)]
  exact zk _ _
 have z0:=z8 hb0
 have f0:=zi hb0
 have l0:=za hb0
 have HS1:=z6 hs1
 have HK1:Hid (KpM [mb,tb] w.heap.size w w1):=z6 ((KpM.of_below (zc w _)).trans (hk1.mono (by simp)))
 have HB0:=z6 hb0
 clear hs1 hk1 hb0 q0 qi HAP
 cases o with
 | none=>
  have ho:Qb none = .agg #[.int .i64 0,.bool false,.nilIface]:=rfl
  rw[ho]
  go_wp2_with fail
  have hbf:Below w.heap.size w1 (((((w1.setCell ⟨w.heap.size,0,none⟩ (.int .i64 0)).setCell ⟨w.heap.size,1,none⟩ (.int .i64 0)).setCell ⟨w.heap.size,2,none⟩ (.int .i64 0)).setCell ⟨w.heap.size,3,none⟩ .nilIface).alloc (.cells #[.int .i64 0,.bool false,.nilIface] 231 (0,0))):=
   Below.alloc (((((Below.refl _ _).setCell (p:=⟨w.heap.size,0,none⟩) (Nat.le_refl _) _).setCell (p:=⟨w.heap.size,1,none⟩) (Nat.le_refl _) _).setCell (p:=⟨w.heap.size,2,none⟩) (Nat.le_refl _) _).setCell (p:=⟨w.heap.size,3,none⟩) (Nat.le_refl _) _) (by have:=zd HB0.out;simp[World.setCell];omega) _
  refine bodyPost_ret (KS rfl _ _ w.heap.size _ _ _ _ rfl (by rw[zm _ _ (by have:=zd HB0.out;simp[World.setCell];omega)];exact zo (zo (zo (zo HB0.out _) _) _) _) Tryz.underlying108 rfl (by kernel_rfl)) rfl ?_
  exact⟨rfl,HS1.out.low HH.out.1 HH.out.2.1 hbf,HK1.out.low hbf⟩
 | some x=>
  have hf:=QV x.2
  obtain⟨nv,hnv⟩:∃ nv,nv=ntV x.2:=⟨_,rfl⟩
  have ho:Qb (some x) = .agg #[.int .i64 x.1,.bool true,nv]:=by rw[hnv];rfl
  have hu:J1 i k (some x) = .agg #[.int .i64 i,.int .i64 k,.int .i64 x.1,nv]:=by rw[hnv];rfl
  rw[ho]
  rw[← hnv] at hf
  have HU:=z6 hu
  clear ho hu hnv
  rcases hf with rfl | ⟨t,y,rfl⟩
  ·go_wp2_with fail
   have hbf:Below w.heap.size w1 (((((w1.setCell ⟨w.heap.size,0,none⟩ (.int .i64 i)).setCell ⟨w.heap.size,1,none⟩ (.int .i64 k)).setCell ⟨w.heap.size,2,none⟩ (.int .i64 x.1)).setCell ⟨w.heap.size,3,none⟩ .nilIface).alloc (.cells #[.int .i64 x.1,.bool true,.nilIface] 231 (0,0))):=
    Below.alloc (((((Below.refl _ _).setCell (p:=⟨w.heap.size,0,none⟩) (Nat.le_refl _) _).setCell (p:=⟨w.heap.size,1,none⟩) (Nat.le_refl _) _).setCell (p:=⟨w.heap.size,2,none⟩) (Nat.le_refl _) _).setCell (p:=⟨w.heap.size,3,none⟩) (Nat.le_refl _) _) (by have:=zd HB0.out;simp[World.setCell];omega) _
   refine bodyPost_ret (KS rfl _ _ w.heap.size _ _ _ _ rfl (by rw[zm _ _ (by have:=zd HB0.out;simp[World.setCell];omega)];exact zo (zo (zo (zo HB0.out _) _) _) _) Tryz.underlying108 rfl (by kernel_rfl)) rfl ?_
   exact⟨by rw[HU.out];rfl,HS1.out.low HH.out.1 HH.out.2.1 hbf,HK1.out.low hbf⟩
  ·go_wp2_with fail
   have hbf:Below w.heap.size w1 (((((w1.setCell ⟨w.heap.size,0,none⟩ (.int .i64 i)).setCell ⟨w.heap.size,1,none⟩ (.int .i64 k)).setCell ⟨w.heap.size,2,none⟩ (.int .i64 x.1)).setCell ⟨w.heap.size,3,none⟩ (.iface t y)).alloc (.cells #[.int .i64 x.1,.bool true,.iface t y] 231 (0,0))):=
    Below.alloc (((((Below.refl _ _).setCell (p:=⟨w.heap.size,0,none⟩) (Nat.le_refl _) _).setCell (p:=⟨w.heap.size,1,none⟩) (Nat.le_refl _) _).setCell (p:=⟨w.heap.size,2,none⟩) (Nat.le_refl _) _).setCell (p:=⟨w.heap.size,3,none⟩) (Nat.le_refl _) _) (by have:=zd HB0.out;simp[World.setCell];omega) _
   refine bodyPost_ret (KS rfl _ _ w.heap.size _ _ _ _ rfl (by rw[zm _ _ (by have:=zd HB0.out;simp[World.setCell];omega)];exact zo (zo (zo (zo HB0.out _) _) _) _) Tryz.underlying108 rfl (by kernel_rfl)) rfl ?_
   exact⟨by rw[HU.out];rfl,HS1.out.low HH.out.1 HH.out.2.1 hbf,HK1.out.low hbf⟩
theorem VV (w:World) (a x y:Int) (v:Value) (hd:(y - x)=a) (h0 : 0≤x) (h1:x≤1000000) (h2 : 0≤y) (h3:y≤1000000) (r:Value) :
  Calls Tryz.prog 56 #[.agg #[r,.int .i64 x,.int .i64 y,v]] w fun e w'=>e = .returned (.int .i64 a)∧Below w.heap.size w w':=by
 subst hd
 go_enter Tryz.func56,Tryz.ntmps56
 go_wp2_with fail
 go_ret
 exact⟨rfl,zc _ _⟩
end Go.Proofs.YtiganlkabilblaaGreatDoor
