import Derived.Test.YtiganlkabilblaaGreatDoorV20
set_option linter.all false
set_option maxHeartbeats 64000000
set_option maxRecDepth 100000
namespace Go.Proofs.YtiganlkabilblaaGreatDoor
open Go.RowKit Thk
attribute [local go_sem ↓] Go.wp_at_zero Go.wp_at_succ
theorem MS.row {wM:World} {mb tb:Nat} {N:List Nd} {bx:List (Nat × Nat × Nat)} {rules:List Nat} {vr:Value} {s:ByteArray} {nt:Nt} {w:World} (h:MS wM mb tb N rules vr s nt w) {ks:List Nat} {a:Option Addr} (hr:RowC wM mb bx ks a) (j:Nat) (hj:j<ks.length):∃ g,a=some ⟨g,0,none⟩∧g<w.heap.size∧w.cell? ⟨g,j,none⟩=some (clV bx ks[j]):=by
 obtain⟨g,h1,h2,h3,h4⟩:=hr j hj
 refine⟨g,h1,Nat.lt_of_lt_of_le h2 h.size,?_⟩
 rw[← h4]
 simp only[World.cell?,h.old g h2 h3]
structure LpC (wM:World) (mb tb:Nat) (N:List Nd) (rules:List Nat) (vr:Value) (s:ByteArray) (w:World) (nt:Nt) (o:Obj) (wr:World):Prop where
 ms:MS wM mb tb N rules vr s nt wr
 kp:KpM [mb,tb] w.heap.size w wr
 blk:wr.heap[w.heap.size]? = some o
theorem in_choice {wM:World} {mb tb:Nat} {N:List Nd} {bx:List (Nat × Nat × Nat)} {rules:List Nat} {vr:Value} {s:ByteArray} (M:Mde wM mb N bx rules vr) {f:Nat} (hC:CloC wM mb tb N bx rules vr s f) (ks:List Nat) (bs:Nat) (a:Option Addr) (c:Nat) (hb:wM.heap[bs]? = some (boxO (.slice a ks.length c) 175)) (hrow:RowC wM mb bx ks a) (hkl:ks.length≤1000000) (k:Nat) (r:Out) (hv:chN (evN N rules s.data.toList f) ks k=some r) (hk:k≤s.size) (w:World) (h:MS wM mb tb N rules vr s .nil w) :
  Calls Tryz.prog 151 #[.int .i64 k,ptrV bs] w (PostM wM mb tb N rules vr s .nil r w):=by
 have p1:=h.box M hb
 have q1:=za0 p1
 have l1:=za3 p1
 have HH:=hideP (And.intro h.size (And.intro h.tlt h.mlt))
 have HL:Hid (LpC wM mb tb N rules vr s w .nil outC (w.alloc outC)):=hideP ⟨h.below (za1 _ _),KpM.of_below (za1 _ _),za4 _ _⟩
 have HV:Hid (chN (evN N rules s.data.toList f) (ks.drop 0) k=some r):=hideP hv
 have HR:=hideP hrow
 have HCC:=hideP hC
 clear h hC hb M p1 hv hrow
 go_enter Tryz.func151,Tryz.ntmps151
 go_wp2_with fail
 go_loopg [9] ks.length (fun m i wr=>∃ t:Nat,m=ks.length - t∧t≤ks.length∧i = .int .i64 t∧Hid (LpC wM mb tb N rules vr s w .nil outC wr)∧Hid (chN (evN N rules s.data.toList f) (ks.drop t) k=some r))
 case atStart=>exact⟨0,rfl,Nat.zero_le _,rfl,HL,HV⟩
 case round=>
  obtain⟨t,rfl,ht,rfl,hL,hH⟩:=hrel
  have z0:=za0 hL.out.blk
  have f0:=za2 hL.out.blk
  have l0:=za3 hL.out.blk
  by_cases hlt:t<ks.length
  ·obtain⟨g,rfl,hgl,c0⟩:=hL.out.ms.row HR.out t hlt
   have hlt':(t:Int)<ks.length:=by omega
   have hvt:=hH.out
   rw[List.drop_eq_getElem_cons hlt] at hvt
   simp only[chN] at hvt
   cases ho1:evN N rules s.data.toList f ks[t] k with
   | none=>rw[ho1] at hvt;cases hvt
   | some o=>
    rw[ho1] at hvt
    have HC:=hideP (HCC.out.at (nt:=.nil) ho1 hk hL.out.ms hL.out.kp (by have:=za7 hL.out.blk;omega))
    simp only[clV,cloV] at c0
    have HVT:=hideP hvt
    clear hvt ho1
    generalize (bx.getD ks[t] (0,0,0)).1=x1 at *
    generalize (bx.getD ks[t] (0,0,0)).2.1=x2 at *
    generalize (bx.getD ks[t] (0,0,0)).2.2=x3 at *
    go_wp2_with fail
    refine HC.out.mono ?_
    rintro _ w1 ⟨rfl,hs1,hk1,hz1,hb1⟩
    have hb0:w1.heap[w.heap.size]? = some outC:=by
     rw[hb1 _ (za7 hL.out.blk) (by have:=HH.out;omega) (by have:=HH.out;omega)]
     exact hL.out.blk
    have y0:=za0 hb0
    have g0:=za2 hb0
    have m0:=za3 hb0
    have HS1:=hideP hs1
    have HK1:=hideP hk1
    have HB0:=hideP hb0
    clear hs1 hk1 hb0 hb1 hz1 z0 f0 l0 c0
    cases o with
    | none=>
     have ho:outV none = .agg #[.int .i64 0,.bool false]:=rfl
     rw[ho]
     go_wp2_with fail
     go_roundg (ks.length - (t+1))
     case measure=>omega
     case rel=>
      refine⟨t+1,rfl,by omega,by go_num,?_,HVT⟩
      have hbf:Below w.heap.size w1 (w1.alloc (.cells #[.int .i64 0,.bool false] 229 (0,0))):=(Below.refl _ _).alloc (Nat.le_of_lt (za7 HB0.out)) _
      exact hideP ⟨HS1.out.low HH.out.1 HH.out.2.1 hbf,HK1.out.low hbf,by rw[za5 _ _ (za7 HB0.out)];exact HB0.out⟩
    | some x=>
     have ho:outV (some x) = .agg #[.int .i64 x.1,.bool true]:=rfl
     rw[ho]
     have hr:=HVT.out
     simp only[Option.some.injEq] at hr
     subst hr
     go_wp2_with fail
     refine bodyPost_ret (results_cell_row rfl _ _ w.heap.size _ _ _ _ rfl (zdK HB0.out _ _ _) Tryz.underlying229 rfl (by kernel_rfl)) rfl ?_
     have hbf:=zd5 (Nat.le_of_lt (za7 HB0.out))
     exact⟨rfl,HS1.out.low HH.out.1 HH.out.2.1 (hbf _ _ _),HK1.out.low (hbf _ _ _)⟩
  ·have hje:t=ks.length:=by omega
   have hRt:r=none:=by
    have h1:=hH.out
    rw[hje,List.drop_length] at h1
    simpa [chN] using h1.symm
   subst hRt
   have hlt':¬ (t:Int)<ks.length:=by omega
   clear hH
   go_wp2_with fail
   refine bodyPost_ret (results_cell_row rfl _ _ w.heap.size _ _ _ _ rfl (cell2 hL.out.blk _ _) Tryz.underlying229 rfl (by kernel_rfl)) rfl ?_
   have hbf:=zba wr w.heap.size
   exact⟨rfl,hL.out.ms.low HH.out.1 HH.out.2.1 (hbf _ _),hL.out.kp.low (hbf _ _)⟩
abbrev befC:Obj:=.cells #[.nilIface] 106 (0,0)
theorem back_d {wM:World} {mb tb:Nat} {N:List Nd} {rules:List Nat} {vr:Value} {s:ByteArray} (w:World) (u:FrameMode) (rb bm bb:Nat) (nt:Nt) (e:Nat) (ok:Bool) (h:MS wM mb tb N rules vr s nt w) (h0:w.heap[rb]? = some (.cells #[.int .i64 e,.bool ok] 229 (0,0))) (h1:w.heap[bm]? = some (boxO (ptrV mb) 113)) (h2:w.heap[bb]? = some befC) :
  CallsD Tryz.prog 176 #[ptrV rb,ptrV bm,ptrV bb] u w fun e u' w'=>u'=u∧(e = .returned (.tuple #[])∧w'=if ok then w else w.setCell ⟨mb,3,none⟩ .nilIface):=by
 have q0:=za0 h0
 have l0:=za3 h0
 have q1:=za0 h1
 have l1:=za3 h1
 have q2:=za0 h2
 have l2:=za3 h2
 have HT:=hideP (takeBack_any w mb vr s _ _ .nil h.blk)
 clear h h0 h1 h2
 cases ok with
 | true=>
  go_enter_d Tryz.func176,Tryz.ntmps176
  go_wp2_with fail
  go_end0
  exact⟨rfl,rfl⟩
 | false=>
  go_enter_d Tryz.func176,Tryz.ntmps176
  go_wp2_with fail
  refine HT.out.mono ?_
  rintro _ w1 ⟨rfl,hw⟩
  go_wp2_with fail
  go_end0
  exact⟨rfl,by rfl⟩
structure LpS (wM:World) (mb tb:Nat) (N:List Nd) (rules:List Nat) (vr:Value) (s:ByteArray) (w:World) (bm:Nat) (nt:Nt) (o:Obj) (wr:World):Prop where
 ms:MS wM mb tb N rules vr s nt wr
 kp:KpM [mb,tb] w.heap.size w wr
 blk:wr.heap[w.heap.size]? = some o
 bef:wr.heap[w.heap.size+1]? = some befC
 box:wr.heap[bm]? = some (boxO (ptrV mb) 113)
theorem in_seq {wM:World} {mb tb:Nat} {N:List Nd} {bx:List (Nat × Nat × Nat)} {rules:List Nat} {vr:Value} {s:ByteArray} (M:Mde wM mb N bx rules vr) {f:Nat} (hC:CloC wM mb tb N bx rules vr s f) (ks:List Nat) (bm bs:Nat) (a:Option Addr) (c:Nat) (hbm:wM.heap[bm]? = some (boxO (ptrV mb) 113)) (hb:wM.heap[bs]? = some (boxO (.slice a ks.length c) 175)) (hrow:RowC wM mb bx ks a) (hkl:ks.length≤1000000) (k:Nat) (r:Out) (hv:sqN (evN N rules s.data.toList f) ks k .nil=some r) (hk:k≤s.size) (w:World) (h:MS wM mb tb N rules vr s .nil w) :
  Calls Tryz.prog 175 #[.int .i64 k,ptrV bm,ptrV bs] w (PostM wM mb tb N rules vr s .nil r w):=by
 have p1:=h.box M hb
 have q1:=za0 p1
 have l1:=za3 p1
 have p2:=h.box M hbm
 have q2:=za0 p2
 have l2:=za3 p2
 have q3:w.cell? ⟨mb,3,none⟩=some .nilIface:=za0 h.blk 3
 have l3:=za7 h.blk
 have n2:=M.ne hbm
 have n2t:bm≠tb:=fun e=>by have:=za7 hbm;have:=h.tge;omega
 have HH:=hideP (And.intro h.size (And.intro h.tlt h.mlt))
 have HV:Hid (sqN (evN N rules s.data.toList f) (ks.drop 0) k .nil=some r):=hideP hv
 have HR:=hideP hrow
 have HCC:=hideP hC
 have HM:=hideP h
 have HP2:=hideP p2
 clear h hC hb M p1 hv hrow p2 hbm
 go_enter_defers Tryz.func175,Tryz.ntmps175
 go_wp2_with fail
 have HL:Hid (LpS wM mb tb N rules vr s w bm .nil (.cells #[.int .i64 k,.bool true] 229 (0,0)) ((w.alloc (.cells #[.int .i64 k,.bool true] 229 (0,0))).alloc befC)):=hideP
  ⟨HM.out.below (zaF _ _ _),KpM.of_below (zaF _ _ _),by rw[za5 _ _ (by simp)];exact za4 _ _,by have:=za4 (w.alloc (.cells #[.int .i64 k,.bool true] 229 (0,0))) befC;simpa using this,by have:=za7 HP2.out;rw[za5 _ _ (by simp;omega),za5 _ _ this];exact HP2.out⟩
 go_loopg [17] ks.length (fun m i wr=>∃ (t cur:Nat) (acc:Nt),m=ks.length - t∧t≤ks.length∧cur≤s.size∧i = .int .i64 t∧Hid (LpS wM mb tb N rules vr s w bm acc (.cells #[.int .i64 cur,.bool true] 229 (0,0)) wr)∧Hid (sqN (evN N rules s.data.toList f) (ks.drop t) cur acc=some r))
 case atStart=>exact⟨0,k,.nil,rfl,Nat.zero_le _,hk,rfl,HL,HV⟩
 case round=>
  obtain⟨t,cur,acc,rfl,ht,hcur,rfl,hL,hH⟩:=hrel
  have z0:=za0 hL.out.blk
  have f0:=za2 hL.out.blk
  have l0:=za3 hL.out.blk
  by_cases hlt:t<ks.length
  ·obtain⟨g,rfl,hgl,c0⟩:=hL.out.ms.row HR.out t hlt
   have hlt':(t:Int)<ks.length:=by omega
   have hvt:=hH.out
   rw[List.drop_eq_getElem_cons hlt] at hvt
   simp only[sqN] at hvt
   cases ho1:evN N rules s.data.toList f ks[t] cur with
   | none=>rw[ho1] at hvt;cases hvt
   | some o=>
    rw[ho1] at hvt
    have HC:=hideP (HCC.out.at (nt:=acc) ho1 hcur hL.out.ms hL.out.kp (by have:=za7 hL.out.blk;omega))
    have HIN:=hideP (fun x (hx:o=some x)=>evN_in N rules s.data.toList f ks[t] cur x.1 x.2 (by simpa using hcur) (by rw[ho1,hx]))
    simp only[clV,cloV] at c0
    have HVT:=hideP hvt
    clear hvt ho1
    generalize (bx.getD ks[t] (0,0,0)).1=x1 at *
    generalize (bx.getD ks[t] (0,0,0)).2.1=x2 at *
    generalize (bx.getD ks[t] (0,0,0)).2.2=x3 at *
    go_wp2_with fail
    refine HC.out.mono ?_
    rintro _ w1 ⟨rfl,hs1,hk1,hz1,hb1⟩
    have hb0:w1.heap[w.heap.size]? = some (.cells #[.int .i64 cur,.bool true] 229 (0,0)):=by
     rw[hb1 _ (za7 hL.out.blk) (by have:=HH.out;omega) (by have:=HH.out;omega)]
     exact hL.out.blk
    have hbb:w1.heap[w.heap.size+1]? = some befC:=by
     rw[hb1 _ (za7 hL.out.bef) (by have:=HH.out;omega) (by have:=HH.out;omega)]
     exact hL.out.bef
    have hbm:w1.heap[bm]? = some (boxO (ptrV mb) 113):=by
     rw[hb1 _ (za7 hL.out.box) n2 n2t]
     exact hL.out.box
    have y0:=za0 hb0
    have g0:=za2 hb0
    have m0:=za3 hb0
    have HS1:=hideP hs1
    have HK1:=hideP hk1
    have HB0:=hideP hb0
    have HBB:=hideP hbb
    have HBM:=hideP hbm
    clear hs1 hk1 hb0 hb1 hz1 z0 f0 l0 c0 hbb hbm
    cases o with
    | none=>
     have ho:outV none = .agg #[.int .i64 0,.bool false]:=rfl
     rw[ho]
     have hr:=HVT.out
     simp only[Option.some.injEq] at hr
     subst hr
     go_wp2_with fail
     have hbf:Below w.heap.size w1 ((((w1.setCell ⟨w.heap.size,0,none⟩ (.int .i64 0)).setCell ⟨w.heap.size,1,none⟩ (.bool false)).setCell ⟨w.heap.size,0,none⟩ (.int .i64 0)).setCell ⟨w.heap.size,1,none⟩ (.bool false)):=(zba _ _ _ _).trans (zba _ _ _ _)
     obtain⟨X,hX⟩:∃ X,X=((((w1.setCell ⟨w.heap.size,0,none⟩ (.int .i64 0)).setCell ⟨w.heap.size,1,none⟩ (.bool false)).setCell ⟨w.heap.size,0,none⟩ (.int .i64 0)).setCell ⟨w.heap.size,1,none⟩ (.bool false)):=⟨_,rfl⟩
     have hnb:w.heap.size≠bm:=by have:=l2;omega
     have x0:X.heap[w.heap.size]? = some (.cells #[.int .i64 ((0:Nat):Int),.bool false] 229 (0,0)):=by rw[hX,za6 (za6 (za6 (za6 HB0.out _) _) _) _];rfl
     have x1:X.heap[w.heap.size+1]? = some befC:=by rw[hX,Below.heap_setCell _ _ _ _ (by simp),Below.heap_setCell _ _ _ _ (by simp),Below.heap_setCell _ _ _ _ (by simp),Below.heap_setCell _ _ _ _ (by simp)];exact HBB.out
     have x2:X.heap[bm]? = some (boxO (ptrV mb) 113):=by rw[hX,Below.heap_setCell _ _ _ _ hnb.symm,Below.heap_setCell _ _ _ _ hnb.symm,Below.heap_setCell _ _ _ _ hnb.symm,Below.heap_setCell _ _ _ _ hnb.symm];exact HBM.out
     rw[← hX] at hbf
     rw[← hX]
     have xm:=HS1.out.low HH.out.1 HH.out.2.1 hbf
     refine leaves_cons (f:=176) (args:=#[ptrV w.heap.size,ptrV bm,ptrV (w.heap.size+1)]) (by simp) (by simp[go_sem]) ?_
     refine (back_d X .returning w.heap.size bm (w.heap.size+1) _ 0 false xm x0 x2 x1).mono ?_
     rintro e u' w'' ⟨rfl,rfl,hw⟩
     simp only[Bool.false_eq_true,if_false] at hw
     subst hw
     have hrb:w.heap.size≠mb:=by have:=HH.out;omega
     refine⟨_,results_cell_row rfl _ _ w.heap.size _ _ _ _ rfl (by rw[Below.heap_setCell _ _ _ _ hrb];exact x0) Tryz.underlying229 rfl (by kernel_rfl),?_⟩
     exact⟨rfl,xm.noted .nil,(HK1.out.low hbf).noted _⟩
    | some x=>
     have ho:outV (some x) = .agg #[.int .i64 x.1,.bool true]:=rfl
     rw[ho]
     go_wp2_with fail
     go_roundg (ks.length - (t+1))
     case measure=>omega
     case rel=>
      refine⟨t+1,x.1,jn acc x.2,rfl,by omega,by have:=(HIN.out x rfl).2;simpa using this,by go_num,?_,HVT⟩
      have hbf:=zba w1 w.heap.size (.int .i64 x.1) (.bool true)
      have hnb:w.heap.size≠bm:=by have:=l2;omega
      exact hideP ⟨HS1.out.low HH.out.1 HH.out.2.1 hbf,HK1.out.low hbf,by rw[za6 (za6 HB0.out _) _];rfl,
       by rw[Below.heap_setCell _ _ _ _ (by simp),Below.heap_setCell _ _ _ _ (by simp)];exact HBB.out,
       by rw[Below.heap_setCell _ _ _ _ hnb.symm,Below.heap_setCell _ _ _ _ hnb.symm];exact HBM.out⟩
  ·have hje:t=ks.length:=by omega
   have hRt:r=some (cur,acc):=by
    have h1:=hH.out
    rw[hje,List.drop_length] at h1
    simpa [sqN] using h1.symm
   subst hRt
   have hlt':¬ (t:Int)<ks.length:=by omega
   clear hH
   go_wp2_with fail
   have hbf:Below w.heap.size wr ((wr.setCell ⟨w.heap.size,0,none⟩ (.int .i64 cur)).setCell ⟨w.heap.size,1,none⟩ (.bool true)):=zba _ _ _ _
   obtain⟨X,hX⟩:∃ X,X=((wr.setCell ⟨w.heap.size,0,none⟩ (.int .i64 cur)).setCell ⟨w.heap.size,1,none⟩ (.bool true)):=⟨_,rfl⟩
   have hnb:w.heap.size≠bm:=by have:=l2;omega
   have x0:X.heap[w.heap.size]? = some (.cells #[.int .i64 cur,.bool true] 229 (0,0)):=by rw[hX,za6 (za6 hL.out.blk _) _];rfl
   have x1:X.heap[w.heap.size+1]? = some befC:=by rw[hX,Below.heap_setCell _ _ _ _ (by simp),Below.heap_setCell _ _ _ _ (by simp)];exact hL.out.bef
   have x2:X.heap[bm]? = some (boxO (ptrV mb) 113):=by rw[hX,Below.heap_setCell _ _ _ _ hnb.symm,Below.heap_setCell _ _ _ _ hnb.symm];exact hL.out.box
   rw[← hX] at hbf
   rw[← hX]
   have xm:=hL.out.ms.low HH.out.1 HH.out.2.1 hbf
   refine leaves_cons (f:=176) (args:=#[ptrV w.heap.size,ptrV bm,ptrV (w.heap.size+1)]) (by simp) (by simp[go_sem]) ?_
   refine (back_d X .returning w.heap.size bm (w.heap.size+1) _ cur true xm x0 x2 x1).mono ?_
   rintro e u' w'' ⟨rfl,rfl,hw⟩
   simp only[if_true] at hw
   subst hw
   refine⟨_,results_cell_row rfl _ _ w.heap.size _ _ _ _ rfl x0 Tryz.underlying229 rfl (by kernel_rfl),?_⟩
   exact⟨rfl,by rw[nil_jn];exact xm,hL.out.kp.low hbf⟩
end Go.Proofs.YtiganlkabilblaaGreatDoor
