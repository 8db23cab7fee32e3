import Derived.Test.YtiganlkabilblaaGreatDoorVL25
set_option linter.all false
set_option maxHeartbeats 64000000
set_option maxRecDepth 100000
namespace Go.Proofs.YtiganlkabilblaaGreatDoor
open Go.RowKit Thk
attribute [local go_sem ↓] Go.wp_at_zero Go.wp_at_succ
theorem UI {w:World} {a:Addr} {v u:Value} {b o:Nat} (h:w.cell? a=some v) (hne:a.block≠b):(w.setCell ⟨b,o,none⟩ u).cell? a=some v:=by
 rw[World.cell?_of_block (a:=a) (Below.heap_setCell w ⟨b,o,none⟩ u a.block hne)];exact h
theorem Kd {w5 w6:World} {O:Obj} {row:Option Nat} {a:Addr} {u:Value} (hg:(w5.alloc O).grownBy w6 row) (h:w5.cell? a=some u) (hn:some a.block≠row):w6.cell? a=some u:=
 hg.cell (by rw[World.cell?_alloc_lt _ _ _ (World.block_lt_of_cell? _ _ h)];exact h) hn
theorem YC {w5 w6:World} {O O2:Obj} {row:Option Nat} {b:Nat} (hg:(w5.alloc O).grownBy w6 row) (h:w5.heap[b]? = some O2) (hn:some b≠row):w6.heap[b]? = some O2:=by
 have hl:=zd h
 rw[hg.block b (by simp;omega) hn,zm _ _ hl];exact h
theorem zad {m:Nt} (h:ntV m = .nilIface):m = .nil:=by
 cases m with
 | nil=>rfl
 | use i x y n=>simp[ntV] at h
 | pair p q=>simp[ntV] at h
theorem VD {m:Nt} (hm:YL m) {tt:TypeId} {vv:Value} (h:ntV m = .iface tt vv):∃ F,((tt=108∧F=81)∨(tt=342∧F=260))∧qu F vv m:=by
 cases m with
 | nil=>simp[ntV] at h
 | use i x y n=>
  simp only[ntV,Value.iface.injEq] at h
  obtain⟨rfl,rfl⟩:=h
  exact⟨_,.inl ⟨rfl,rfl⟩,hm⟩
 | pair p q=>
  simp only[ntV,Value.iface.injEq] at h
  obtain⟨rfl,rfl⟩:=h
  exact⟨_,.inr ⟨rfl,rfl⟩,hm⟩
theorem Lsg.neB {w:World} {lb B:Nat} {a:Option Addr} {c:Nat} {xs:List Nod} {d b:Nat} {cs:Array Value} {t:TypeId} {fr:Nat × Nat} (h:Lsg w lb B a c xs d) (hb:w.heap[b]? = some (.cells cs t fr)) (ht:t≠60):some b≠obS a xs.length c:=by
 intro e
 obtain⟨cur,hc⟩:=Zr h.row e.symm
 rw[hb] at hc
 simp only[Option.some.injEq,Obj.cells.injEq] at hc
 exact ht hc.2.1
theorem offC {w:World} {lb d:Nat} {v u:Value} (h:w.heap[lb]? = some (YE v d)):(w.setCell ⟨lb,0,none⟩ u).cell? ⟨lb,1,none⟩=some (.int .i64 d):=z8 (zo h u) 1
theorem J5 {w:World} {O:Obj} {a:Addr} {v:Value} (h:w.cell? a=some v):(w.alloc O).cell? a=some v:=by
 rw[World.cell?_alloc_lt _ _ _ (World.block_lt_of_cell? _ _ h)];exact h
theorem zjt {w w6:World} {r:Option Nat} (h:w.drew.grownBy w6 r):w.grownBy w6 r:=⟨h.os,h.tape,h.output,h.size,h.block⟩
theorem zaa (w:World) (u:FrameMode) (bb lb:Nat) (v:Value) (d:Nat) (hd:d≤1000000) (h0:w.heap[bb]? = some (zh (z9 lb) 172)) (h:w.heap[lb]? = some (YE v (d+1))) :
  CallsD Tryz.prog 118 #[z9 bb] u w fun e u' w'=>u'=u∧(e = .returned (.tuple #[])∧w'=w.setCell ⟨lb,1,none⟩ (.int .i64 d)):=by
 have q0:w.cell? ⟨bb,0,none⟩=some (z9 lb):=z8 h0 0
 have l0:=za h0
 have q:w.cell? ⟨lb,1,none⟩=some (.int .i64 ((d+1:Nat):Int)):=z8 h 1
 have fz:=zi h
 have l:=za h
 have hn:((d+1:Nat):Int) - 1=d:=by omega
 clear h h0
 go_enter_d Tryz.func118,Tryz.ntmps118
 go_wp2_with fail
 go_end0
 exact⟨rfl,by simp⟩
structure UsGo (lb B:Nat) (a:Option Addr) (c:Nat) (xs:List Nod) (d:Nat) (z:Nod) (nv:Value) (w:World) (g cap:Nat) (w7:World):Prop where
 ls:Lsg w7 lb B (some ⟨g,0,none⟩) cap (xs++[z]) d
 kp:KpL lb (obS a xs.length c) w w7
 at_:obS (some ⟨g,0,none⟩) (xs++[z]).length cap=obS a xs.length c∨∃ k,obS (some ⟨g,0,none⟩) (xs++[z]).length cap=some k∧w.heap.size≤k
 box:w7.heap[w.heap.size+1]? = some (zh (z9 lb) 172)
 use:w7.heap[w.heap.size]? = some (usO z.1 z.2.1 z.2.2.1 nv)
 big:w.heap.size≤w7.heap.size
 bge:B≤w7.heap.size
theorem zjv {lb B:Nat} {a:Option Addr} {c:Nat} {xs:List Nod} {d i x y:Nat} {nv:Value} {w X w6:World} {g cap:Nat} {O:Obj} (h:Lsg w lb B a c xs d) (hXb:Below w.heap.size w X) (hXu:X.heap[w.heap.size]? = some (usO i x y nv)) (hXp:X.heap[w.heap.size+1]? = some (zh (z9 lb) 172)) (hXl:Lsg X lb B a c xs d) (h1:some w.heap.size≠obS a xs.length c) (h2:some (w.heap.size+1)≠obS a xs.length c)
  (hown:w6.ownsRow B 60 4 (.slice (some ⟨g,0,none⟩) (xs.length+1) cap) (xs.length+1) (xs.flatMap ZZ++ZZ (i,x,y,d))) (hg:(X.alloc O).grownBy w6 (obS a xs.length c)) (hat:obS a xs.length c=some g∨g=X.heap.size+1) (hB:B≤X.heap.size):UsGo lb B a c xs d (i,x,y,d) nv w g cap (w6.setCell ⟨lb,0,none⟩ (.slice (some ⟨g,0,none⟩) (xs.length+1) cap)):=by
 have hll:=zd h.blk
 have hz:=hXb.size
 have hz6:=hg.size
 simp at hz6
 refine⟨hXl.push hown hg,((KpL.of_below hXb).trans (KpL.grown hg) (.inl rfl)).set _,?_,?_,?_,by simp[World.setCell];omega,by simp[World.setCell];omega⟩
 ·rcases hat with e | e
  ·exact .inl e.symm
  ·exact .inr ⟨g,rfl,by omega⟩
 ·rw[Below.heap_setCell _ _ _ _ (by show _≠lb;omega)];exact YC hg hXp h2
 ·rw[Below.heap_setCell _ _ _ _ (by show _≠lb;omega)];exact YC hg hXu h1
theorem zfS (i x y:Nat) (m:Nt) (hm:YL m):YL (.use i x y m):=by
  intro w lb B a c xs d h hB hl hd
  simp only[szN] at hl hd
  obtain⟨i0,hi0,hz0,hz1,hz2⟩:=info_parts Tryz.infoNode
  have hll:=zd h.blk
  obtain⟨X,hX⟩:∃ X,X=(w.alloc (usO i x y (ntV m))).alloc (zh (z9 lb) 172):=⟨_,rfl⟩
  have hXb:Below w.heap.size w X:=by rw[hX];exact (zc _ _).alloc (by simp) _
  have hXs:X.heap.size=w.heap.size+2:=by rw[hX];simp
  have hXu:X.heap[w.heap.size]? = some (usO i x y (ntV m)):=by rw[hX,zm _ _ (by simp)];exact zk _ _
  have hXp:X.heap[w.heap.size+1]? = some (zh (z9 lb) 172):=by
    rw[hX]
    have:=zk (w.alloc (usO i x y (ntV m))) (zh (z9 lb) 172)
    simpa using this
  have hXl:=h.kp hXb
  have u0:X.cell? ⟨w.heap.size,0,none⟩=some (.int .i64 i):=z8 hXu 0
  have u1:X.cell? ⟨w.heap.size,1,none⟩=some (.int .i64 x):=z8 hXu 1
  have u2:X.cell? ⟨w.heap.size,2,none⟩=some (.int .i64 y):=z8 hXu 2
  have p0:X.cell? ⟨w.heap.size+1,0,none⟩=some (z9 lb):=z8 hXp 0
  have l0:X.cell? ⟨lb,0,none⟩=some (.slice a xs.length c):=z8 hXl.blk 0
  have l1:X.cell? ⟨lb,1,none⟩=some (.int .i64 d):=z8 hXl.blk 1
  have f0:X.frozen? ⟨lb,0,none⟩=false:=zi hXl.blk 0
  have e0:=za hXu
  have e1:=za hXp
  have e2:=za hXl.blk
  have n1:w.heap.size≠lb:=by omega
  have n2:w.heap.size+1≠lb:=by omega
  have HO1:Hid (some w.heap.size≠obS a xs.length c):=z6 (fun e=>by have:=(h.row.lt _ e.symm).2;omega)
  have HO2:Hid (some (w.heap.size+1)≠obS a xs.length c):=z6 (fun e=>by have:=(h.row.lt _ e.symm).2;omega)
  have HO3:Hid (some lb≠obS a xs.length c):=z6 h.ne
  have HOWN:=z6 hXl.row
  have HML:Hid (xs.length+1≤maxLen):=by show _≤_;unfold maxLen;omega
  have H1:Hid (∀ u ∈ ZZ (i,x,y,d),u.oneCell'=true):=z6 (by intro u hu;simp[ZZ] at hu;rcases hu with rfl | rfl | rfl | rfl<;>rfl)
  have HH:=z6 h
  have HXL:=z6 hXl
  have HXU:=z6 hXu
  have HXP:=z6 hXp
  have HXB:=z6 hXb
  have HM:=z6 hm
  have hBX:B≤X.heap.size:=by omega
  have HXS:=z6 hXs
  clear h hXl hXu hXp hXb hm hXs
  have hnf:=QV m
  generalize hnv:ntV m=nv at *
  have hu3:X.cell? ⟨w.heap.size,3,none⟩=some nv:=z8 HXU.out 3
  have hcs:nv = .nilIface∨∃ vv,(nv = .iface 108 vv∨nv = .iface 342 vv):=by
    rcases hnf with h | ⟨tt,vv,h⟩
    · exact .inl h
    · subst h
      obtain⟨F,hF,_⟩:=VD HM.out hnv
      rcases hF with ⟨rfl,_⟩ | ⟨rfl,_⟩
      · exact .inr ⟨vv,.inl rfl⟩
      · exact .inr ⟨vv,.inr rfl⟩
  have mU:=Tryz.methodListU
  have mP:=Tryz.methodListP
  clear hnf
  rcases hcs with rfl | ⟨vv,rfl | rfl⟩
  all_goals
    go_enter_defers Tryz.func81,Tryz.ntmps81
    go_wp2_with fail
    rw[← hX]
    clear hX
    refine Yj ?_
    refine wp_region_held_drew (S:=fun w'=>w'.cell? ⟨w.heap.size+1,0,none⟩=some (z9 lb)∧w'.cell? ⟨w.heap.size,0,none⟩=some (.int .i64 i)∧w'.cell? ⟨w.heap.size,1,none⟩=some (.int .i64 x)∧w'.cell? ⟨w.heap.size,2,none⟩=some (.int .i64 y)∧w'.cell? ⟨lb,1,none⟩=some (.int .i64 d)) (by kernel_rfl) ⟨p0,u0,u1,u2,l1⟩ (fun hHeld=>?_)
    refine wpAnyH_take (i:=0) (oi:={ dst:=some 4,op:=_,type:=_,pos:=_,after:=_,guard:=none }) (v:=z9 lb) rfl (by kernel_rfl) (by kernel_rfl) (by kernel_rfl) (fun _ _ _ h=>h) (Or.inl ⟨by rfl,fun w hSw=>by (try dsimp only at hSw);go_simp⟩) hHeld ?_
    simp only[Act.put,List.setIfInBounds_toArray,List.set_cons_zero,List.set_cons_succ]
    refine wpAnyH_take (i:=1) (oi:={ dst:=some 5,op:=_,type:=_,pos:=_,after:=_,guard:=none }) (v:=z9 lb) rfl (by kernel_rfl) (by kernel_rfl) (by kernel_rfl) (fun _ _ _ h=>h) (Or.inl ⟨by rfl,fun w hSw=>by (try dsimp only at hSw);go_simp⟩) hHeld ?_
    simp only[Act.put,List.setIfInBounds_toArray,List.set_cons_zero,List.set_cons_succ]
    refine wpAnyH_take (i:=2) (oi:={ dst:=some 6,op:=_,type:=_,pos:=_,after:=_,guard:=none }) (v:=z9 lb) rfl (by kernel_rfl) (by kernel_rfl) (by kernel_rfl) (fun _ _ _ h=>h) (Or.inl ⟨by rfl,fun w hSw=>by (try dsimp only at hSw);go_simp⟩) hHeld ?_
    simp only[Act.put,List.setIfInBounds_toArray,List.set_cons_zero,List.set_cons_succ]
    refine wpAnyH_take (i:=3) (oi:={ dst:=some 7,op:=_,type:=_,pos:=_,after:=_,guard:=none }) (v:=z9 lb) rfl (by kernel_rfl) (by kernel_rfl) (by kernel_rfl) (fun _ _ _ h=>h) (Or.inl ⟨by rfl,fun w hSw=>by (try dsimp only at hSw);go_simp⟩) hHeld ?_
    simp only[Act.put,List.setIfInBounds_toArray,List.set_cons_zero,List.set_cons_succ]
    refine wpAnyH_take (i:=5) (oi:={ dst:=some 9,op:=_,type:=_,pos:=_,after:=_,guard:=none }) (v:=z9 w.heap.size) rfl (by kernel_rfl) (by kernel_rfl) (by kernel_rfl) (fun _ _ _ h=>h) (Or.inl ⟨by rfl,fun w hSw=>by (try dsimp only at hSw);go_simp⟩) hHeld ?_
    simp only[Act.put,List.setIfInBounds_toArray,List.set_cons_zero,List.set_cons_succ]
    refine wpAnyH_take (i:=6) (oi:={ dst:=some 10,op:=_,type:=_,pos:=_,after:=_,guard:=none }) (v:=.int .i64 i) rfl (by kernel_rfl) (by kernel_rfl) (by kernel_rfl) (fun _ _ _ h=>h) (Or.inl ⟨by rfl,fun w hSw=>by (try dsimp only at hSw);go_simp⟩) hHeld ?_
    simp only[Act.put,List.setIfInBounds_toArray,List.set_cons_zero,List.set_cons_succ]
    refine wpAnyH_take (i:=7) (oi:={ dst:=some 11,op:=_,type:=_,pos:=_,after:=_,guard:=none }) (v:=.pointer (some ⟨w.heap.size,1,none⟩)) rfl (by kernel_rfl) (by kernel_rfl) (by kernel_rfl) (fun _ _ _ h=>h) (Or.inl ⟨by rfl,fun w hSw=>by (try dsimp only at hSw);go_simp⟩) hHeld ?_
    simp only[Act.put,List.setIfInBounds_toArray,List.set_cons_zero,List.set_cons_succ]
    refine wpAnyH_take (i:=8) (oi:={ dst:=some 12,op:=_,type:=_,pos:=_,after:=_,guard:=none }) (v:=.int .i64 x) rfl (by kernel_rfl) (by kernel_rfl) (by kernel_rfl) (fun _ _ _ h=>h) (Or.inl ⟨by rfl,fun w hSw=>by (try dsimp only at hSw);go_simp⟩) hHeld ?_
    simp only[Act.put,List.setIfInBounds_toArray,List.set_cons_zero,List.set_cons_succ]
    refine wpAnyH_take (i:=9) (oi:={ dst:=some 13,op:=_,type:=_,pos:=_,after:=_,guard:=none }) (v:=.pointer (some ⟨w.heap.size,2,none⟩)) rfl (by kernel_rfl) (by kernel_rfl) (by kernel_rfl) (fun _ _ _ h=>h) (Or.inl ⟨by rfl,fun w hSw=>by (try dsimp only at hSw);go_simp⟩) hHeld ?_
    simp only[Act.put,List.setIfInBounds_toArray,List.set_cons_zero,List.set_cons_succ]
    refine wpAnyH_take (i:=10) (oi:={ dst:=some 14,op:=_,type:=_,pos:=_,after:=_,guard:=none }) (v:=.int .i64 y) rfl (by kernel_rfl) (by kernel_rfl) (by kernel_rfl) (fun _ _ _ h=>h) (Or.inl ⟨by rfl,fun w hSw=>by (try dsimp only at hSw);go_simp⟩) hHeld ?_
    simp only[Act.put,List.setIfInBounds_toArray,List.set_cons_zero,List.set_cons_succ]
    refine wpAnyH_take (i:=11) (oi:={ dst:=some 15,op:=_,type:=_,pos:=_,after:=_,guard:=none }) (v:=z9 lb) rfl (by kernel_rfl) (by kernel_rfl) (by kernel_rfl) (fun _ _ _ h=>h) (Or.inl ⟨by rfl,fun w hSw=>by (try dsimp only at hSw);go_simp⟩) hHeld ?_
    simp only[Act.put,List.setIfInBounds_toArray,List.set_cons_zero,List.set_cons_succ]
    refine wpAnyH_take (i:=12) (oi:={ dst:=some 16,op:=_,type:=_,pos:=_,after:=_,guard:=none }) (v:=z9 lb) rfl (by kernel_rfl) (by kernel_rfl) (by kernel_rfl) (fun _ _ _ h=>h) (Or.inl ⟨by rfl,fun w hSw=>by (try dsimp only at hSw);go_simp⟩) hHeld ?_
    simp only[Act.put,List.setIfInBounds_toArray,List.set_cons_zero,List.set_cons_succ]
    refine wpAnyH_take (i:=13) (oi:={ dst:=some 17,op:=_,type:=_,pos:=_,after:=_,guard:=none }) (v:=.pointer (some ⟨lb,1,none⟩)) rfl (by kernel_rfl) (by kernel_rfl) (by kernel_rfl) (fun _ _ _ h=>h) (Or.inl ⟨by rfl,fun w hSw=>by (try dsimp only at hSw);go_simp⟩) hHeld ?_
    simp only[Act.put,List.setIfInBounds_toArray,List.set_cons_zero,List.set_cons_succ]
    refine wpAnyH_take (i:=14) (oi:={ dst:=some 18,op:=_,type:=_,pos:=_,after:=_,guard:=none }) (v:=.int .i64 d) rfl (by kernel_rfl) (by kernel_rfl) (by kernel_rfl) (fun _ _ _ h=>h) (Or.inl ⟨by rfl,fun w hSw=>by (try dsimp only at hSw);go_simp⟩) hHeld ?_
    simp only[Act.put,List.setIfInBounds_toArray,List.set_cons_zero,List.set_cons_succ]
    refine wpAnyH_take (i:=15) (oi:={ dst:=some 19,op:=_,type:=_,pos:=_,after:=_,guard:=none }) (v:=.agg #[.int .i64 i,.int .i64 x,.int .i64 y,.int .i64 d]) rfl (by kernel_rfl) (by kernel_rfl) (by kernel_rfl) (fun _ _ _ h=>h) (Or.inl ⟨by rfl,fun w hSw=>by (try dsimp only at hSw);go_simp⟩) hHeld ?_
    simp only[Act.put,List.setIfInBounds_toArray,List.set_cons_zero,List.set_cons_succ]
    refine wpAnyH_ready (rs:=[4,16]) (by kernel_rfl) (by simp) ?_
    refine AllReadyH.cons (o:={ dst:=some 8,op:=_,type:=_,pos:=_,after:=_,guard:=none }) rfl (fun K hK=>?_) (AllReadyH.cons (o:={ dst:=some 20,op:=_,type:=_,pos:=_,after:=_,guard:=none }) rfl (fun K hK=>?_) AllReadyH.nil)
    all_goals go_simp
  all_goals
    first
      | (refine hK.out _ _ ⟨p0, u0, u1, u2, l1⟩ (fun hHeld => ?_)
         clear hK K
         refine wpAnyH_ready (rs:=[16]) (by kernel_rfl) (by simp) ?_
         refine AllReadyH.cons (o:={ dst:=some 20,op:=_,type:=_,pos:=_,after:=_,guard:=none }) rfl (fun K hK=>?_) AllReadyH.nil
         go_simp
         refine hK.out _ _ ⟨J5 p0,J5 u0,J5 u1,J5 u2,J5 l1⟩ (fun hHeld=>?_)
         clear hK K)
      | (refine hK.out _ _ ⟨J5 p0, J5 u0, J5 u1, J5 u2, J5 l1⟩ (fun hHeld => ?_)
         clear hK K
         refine wpAnyH_ready (rs:=[4]) (by kernel_rfl) (by simp) ?_
         refine AllReadyH.cons (o:={ dst:=some 8,op:=_,type:=_,pos:=_,after:=_,guard:=none }) rfl (fun K hK=>?_) AllReadyH.nil
         go_simp
         refine hK.out _ _ ⟨J5 p0,J5 u0,J5 u1,J5 u2,J5 l1⟩ (fun hHeld=>?_)
         clear hK K)
  all_goals
    refine wpAnyH_ready (rs:=[17]) (by kernel_rfl) (by simp) ?_
    refine AllReadyH.cons (o:={ dst:=some 21,op:=_,type:=_,pos:=_,after:=_,guard:=none }) rfl (fun K hK=>?_) AllReadyH.nil
    (refine step_append_lies _ (by rfl) _ _ _ (by rfl) B 60 i0 _ 4 32 Tryz.underlying53 hi0 hz0 hz1 hz2 (by rfl) (by decide) _ _ _ (by rfl) (HOWN.out.alloc _) ⟨X.heap.size,0,none⟩ 1 1 (ZZ (i,x,y,d)) (by rfl) (by rfl) (World.news_of_block (zk X _)) H1.out (by decide) HML.out (by omega) (by simp;omega) (X.heap.size+1) (by simp) ?_;intro g2 cap2 w6 hown1 hgr hat hlt3;have hgrow:=zjt hgr;have t1:w6.cell? ⟨w.heap.size+1,0,none⟩=some (z9 lb):=Kd hgrow p0 HO2.out;have t2:w6.cell? ⟨w.heap.size,0,none⟩=some (.int .i64 i):=Kd hgrow u0 HO1.out;have t3:w6.cell? ⟨w.heap.size,1,none⟩=some (.int .i64 x):=Kd hgrow u1 HO1.out;have t4:w6.cell? ⟨w.heap.size,2,none⟩=some (.int .i64 y):=Kd hgrow u2 HO1.out;have t5:w6.cell? ⟨lb,1,none⟩=some (.int .i64 d):=Kd hgrow l1 HO3.out;have y2:=z6 (offC (u:=.slice (some ⟨g2,0,none⟩) (xs.length+1) cap2) (YC hgrow HXL.out.blk HO3.out));have y0:w6.cell? ⟨lb,0,none⟩=some (.slice a xs.length c):=Kd hgrow l0 HO3.out;have y1:w6.frozen? ⟨lb,0,none⟩=false:=zi (YC hgrow HXL.out.blk HO3.out) 0;have HF:=z6 (zjv HH.out HXB.out HXU.out HXP.out HXL.out HO1.out HO2.out hown1 hgrow hat hBX);clear hown1 hgrow hgr hat hlt3)
    refine hK.out _ _ ⟨t1,t2,t3,t4,t5⟩ (fun hHeld=>?_)
    clear hK K
    simp only[Act.put,List.setIfInBounds_toArray,List.set_cons_zero,List.set_cons_succ]
    refine wpAnyH_take (i:=18) (oi:={ dst:=some 22,op:=_,type:=_,pos:=_,after:=_,guard:=none }) (v:=z9 lb) rfl (by kernel_rfl) (by kernel_rfl) (by kernel_rfl) (fun _ _ _ h=>h) (Or.inl ⟨by rfl,fun w hSw=>by (try dsimp only at hSw);go_simp⟩) hHeld ?_
    simp only[Act.put,List.setIfInBounds_toArray,List.set_cons_zero,List.set_cons_succ]
    refine wpAnyH_take (i:=19) (oi:={ dst:=some 23,op:=_,type:=_,pos:=_,after:=_,guard:=none }) (v:=z9 lb) rfl (by kernel_rfl) (by kernel_rfl) (by kernel_rfl) (fun _ _ _ h=>h) (Or.inl ⟨by rfl,fun w hSw=>by (try dsimp only at hSw);go_simp⟩) hHeld ?_
    simp only[Act.put,List.setIfInBounds_toArray,List.set_cons_zero,List.set_cons_succ]
    refine wpAnyH_ready (rs:=[20]) (by kernel_rfl) (by simp) ?_
    refine AllReadyH.cons (o:={ dst:=none,op:=_,type:=_,pos:=_,after:=_,guard:=none }) rfl (fun K hK=>?_) AllReadyH.nil
    go_simp
    refine hK.out _ _ ⟨UI t1 n2,UI t2 n1,UI t3 n1,UI t4 n1,y2.out⟩ (fun hHeld=>?_)
    clear hK K
    refine wpAnyH_done (by kernel_rfl) ?_ _
    refine Yi ?_
    obtain⟨w7,hw7⟩:∃ w7,w7=w6.setCell ⟨lb,0,none⟩ (.slice (some ⟨g2,0,none⟩) (xs.length+1) cap2):=⟨_,rfl⟩
    rw[← hw7] at HF ⊢
    clear hw7 t1 t2 t3 t4 t5 y0 y1 y2 u0 u1 u2 p0 l0 l1 f0 hu3 hHeld
    have p7:w7.cell? ⟨w.heap.size+1,0,none⟩=some (z9 lb):=z8 HF.out.box 0
    have l7:w7.cell? ⟨lb,1,none⟩=some (.int .i64 d):=z8 HF.out.ls.blk 1
    have f7:w7.frozen? ⟨lb,1,none⟩=false:=zi HF.out.ls.blk 1
    have e7:=za HF.out.ls.blk
    have e8:=za HF.out.box
    have e9:=za HF.out.use
  all_goals
    first
      | (have q7 : w7.cell? ⟨w.heap.size, 3, none⟩ = some .nilIface := z8 HF.out.use 3
         go_wp2_with fail
         have hd1:((d:Int)+1)=((d+1:Nat):Int):=by omega
         rw[hd1]
         have h8:=HF.out.ls.depth (d+1)
         have HZ:Hid (JJ lb B a c xs (zY d (.use i x y m)) d w ((w7.setCell ⟨lb,1,none⟩ (.int .i64 ((d+1:Nat):Int))).setCell ⟨lb,1,none⟩ (.int .i64 d))):=z6 (by
           have hmn:m = .nil:=zad hnv
           subst hmn
           simp only[zY]
           exact⟨_,_,h8.depth d,(HF.out.kp.set _).set _,HF.out.at_⟩)
         have hbx:(w7.setCell ⟨lb,1,none⟩ (.int .i64 ((d+1:Nat):Int))).heap[w.heap.size+1]? = some (zh (z9 lb) 172):=by rw[Below.heap_setCell _ _ _ _ n2];exact HF.out.box
         generalize w7.setCell ⟨lb,1,none⟩ (.int .i64 ((d+1:Nat):Int))=w8 at *
         refine leaves_cons (f:=118) (args:=#[z9 (w.heap.size+1)]) (by simp) (by simp[go_sem]) ?_
         refine (zaa w8 _ (w.heap.size+1) lb _ d (by omega) hbx h8.blk).mono ?_
         rintro e u' w'' ⟨rfl,rfl,rfl⟩
         exact⟨.tuple #[],by simp[results,Tryz.results81],rfl,HZ.out⟩)
      | (have q7 : w7.cell? ⟨w.heap.size, 3, none⟩ = some (.iface _ vv) := z8 HF.out.use 3
         obtain⟨F,hF,hLC⟩:=VD HM.out hnv
         obtain rfl:F=81:=by rcases hF with ⟨h1,h2⟩ | ⟨h1,h2⟩<;>first | exact h2 | exact absurd h1 (by decide)
         have HLC:=z6 hLC
         clear hLC hF hnv
         go_wp2_with fail
         have hd1:((d:Int)+1)=((d+1:Nat):Int):=by omega
         rw[hd1]
         have h8:=HF.out.ls.depth (d+1)
         have hbx:(w7.setCell ⟨lb,1,none⟩ (.int .i64 ((d+1:Nat):Int))).heap[w.heap.size+1]? = some (zh (z9 lb) 172):=by rw[Below.heap_setCell _ _ _ _ n2];exact HF.out.box
         have hk8:KpL lb (obS a xs.length c) w (w7.setCell ⟨lb,1,none⟩ (.int .i64 ((d+1:Nat):Int))):=HF.out.kp.set _
         have hat8:=HF.out.at_
         have hB8:B≤(w7.setCell ⟨lb,1,none⟩ (.int .i64 ((d+1:Nat):Int))).heap.size:=by have:=HF.out.bge;simpa [World.setCell] using this
         generalize w7.setCell ⟨lb,1,none⟩ (.int .i64 ((d+1:Nat):Int))=w8 at *
         refine (HLC.out w8 lb B _ cap2 _ (d+1) h8 hB8 (by simp;omega) (by omega)).mono ?_
         rintro _ w9 ⟨rfl,hP9⟩
         have HZ:Hid (w9.heap[w.heap.size+1]? = some (zh (z9 lb) 172)∧(∃ v,w9.heap[lb]? = some (YE v (d+1)))∧JJ lb B a c xs (zY d (.use i x y m)) d w (w9.setCell ⟨lb,1,none⟩ (.int .i64 d))):=z6 (by
           obtain⟨a9,c9,h9,hk9,hat9⟩:=hP9
           refine⟨?_,⟨_,h9.blk⟩,?_⟩
           · rw[hk9.block _ (zd hbx) n2 (h8.neB hbx (by decide))];exact hbx
           · simp only[zY]
             exact JJ.trans (ys:=[(i,x,y,d)]) hk8 hat8 ⟨a9,c9,h9.depth d,hk9.set _,hat9⟩)
         clear hP9 h8 hbx hk8 hat8 hB8
         go_wp2_with fail
         obtain⟨hbx9,⟨v9,hv9⟩,hz9⟩:=HZ.out
         refine leaves_cons (f:=118) (args:=#[z9 (w.heap.size+1)]) (by simp) (by simp[go_sem]) ?_
         refine (zaa _ _ (w.heap.size+1) lb _ d (by omega) hbx9 hv9).mono ?_
         rintro e u' w'' ⟨rfl,rfl,rfl⟩
         exact⟨.tuple #[],by simp[results,Tryz.results81],rfl,hz9⟩)
      | (have q7 : w7.cell? ⟨w.heap.size, 3, none⟩ = some (.iface _ vv) := z8 HF.out.use 3
         obtain⟨F,hF,hLC⟩:=VD HM.out hnv
         obtain rfl:F=260:=by rcases hF with ⟨h1,h2⟩ | ⟨h1,h2⟩<;>first | exact h2 | exact absurd h1 (by decide)
         have HLC:=z6 hLC
         clear hLC hF hnv
         go_wp2_with fail
         have hd1:((d:Int)+1)=((d+1:Nat):Int):=by omega
         rw[hd1]
         have h8:=HF.out.ls.depth (d+1)
         have hbx:(w7.setCell ⟨lb,1,none⟩ (.int .i64 ((d+1:Nat):Int))).heap[w.heap.size+1]? = some (zh (z9 lb) 172):=by rw[Below.heap_setCell _ _ _ _ n2];exact HF.out.box
         have hk8:KpL lb (obS a xs.length c) w (w7.setCell ⟨lb,1,none⟩ (.int .i64 ((d+1:Nat):Int))):=HF.out.kp.set _
         have hat8:=HF.out.at_
         have hB8:B≤(w7.setCell ⟨lb,1,none⟩ (.int .i64 ((d+1:Nat):Int))).heap.size:=by have:=HF.out.bge;simpa [World.setCell] using this
         generalize w7.setCell ⟨lb,1,none⟩ (.int .i64 ((d+1:Nat):Int))=w8 at *
         refine (HLC.out w8 lb B _ cap2 _ (d+1) h8 hB8 (by simp;omega) (by omega)).mono ?_
         rintro _ w9 ⟨rfl,hP9⟩
         have HZ:Hid (w9.heap[w.heap.size+1]? = some (zh (z9 lb) 172)∧(∃ v,w9.heap[lb]? = some (YE v (d+1)))∧JJ lb B a c xs (zY d (.use i x y m)) d w (w9.setCell ⟨lb,1,none⟩ (.int .i64 d))):=z6 (by
           obtain⟨a9,c9,h9,hk9,hat9⟩:=hP9
           refine⟨?_,⟨_,h9.blk⟩,?_⟩
           · rw[hk9.block _ (zd hbx) n2 (h8.neB hbx (by decide))];exact hbx
           · simp only[zY]
             exact JJ.trans (ys:=[(i,x,y,d)]) hk8 hat8 ⟨a9,c9,h9.depth d,hk9.set _,hat9⟩)
         clear hP9 h8 hbx hk8 hat8 hB8
         go_wp2_with fail
         obtain⟨hbx9,⟨v9,hv9⟩,hz9⟩:=HZ.out
         refine leaves_cons (f:=118) (args:=#[z9 (w.heap.size+1)]) (by simp) (by simp[go_sem]) ?_
         refine (zaa _ _ (w.heap.size+1) lb _ d (by omega) hbx9 hv9).mono ?_
         rintro e u' w'' ⟨rfl,rfl,rfl⟩
         exact⟨.tuple #[],by simp[results,Tryz.results81],rfl,hz9⟩)
end Go.Proofs.YtiganlkabilblaaGreatDoor
