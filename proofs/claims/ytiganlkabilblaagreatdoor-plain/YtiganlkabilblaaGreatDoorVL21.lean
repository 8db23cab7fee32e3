import Derived.Test.YtiganlkabilblaaGreatDoorVL18
import Derived.Test.YtiganlkabilblaaGreatDoorVL19
import Derived.Test.YtiganlkabilblaaGreatDoorVL20
import Derived.Test.YtiganlkabilblaaGreatDoorVL13
import Derived.Test.YtiganlkabilblaaGreatDoorVL14
import Derived.Deep.QuietTactic
import Derived.BigQuiet
import Derived.Deep.RegionHeld
set_option linter.all false
set_option maxHeartbeats 64000000
set_option maxRecDepth 100000
namespace Go.Proofs.YtiganlkabilblaaGreatDoor
open Go.RowKit Thk
theorem zfs {wM:World} {mb tb:Nat} {N:List Nd} {bx:List (Nat × Nat × Nat)} {rules:List Nat} {vr:Value} {s:ByteArray} (M:Mde wM mb N bx rules vr) (hrl:rules.length≤100000) (hsz:s.size≤1000000) {f:Nat} (hC:JE wM mb tb N bx rules vr s f):zaH wM mb tb N bx rules vr s f:=by
 intro n d iv k r hin hv hk
 cases d with
 | choice ks=>
  obtain⟨bs,a,c,rfl,hb,hrow,hl⟩:=hin
  refine⟨_,_,rfl,fun args w=>by simp[go_sem],fun W hW=>?_⟩
  have:=zfk M hC ks bs a c hb hrow hl k r hv hk W hW
  simpa using this
 | seq ks=>
  obtain⟨bm,bs,a,c,rfl,hbm,hb,hrow,hl⟩:=hin
  refine⟨_,_,rfl,fun args w=>by simp[go_sem],fun W hW=>?_⟩
  have:=zfp M hC ks bm bs a c hbm hb hrow hl k r hv hk W hW
  simpa using this
 | ahead j wd=>
  obtain⟨bm,be,bw,rfl,hbm,hb,hbw⟩:=hin
  refine⟨_,_,rfl,fun args w=>by simp[go_sem],fun W hW=>?_⟩
  simp only[Zx] at hv
  cases ho:evN N rules s.data.toList f j k with
  | none=>rw[ho] at hv;cases hv
  | some o=>
   rw[ho] at hv
   simp only[Option.map_some,Option.some.injEq] at hv
   subst hv
   have:=zfj M hC j bm be bw wd hbm hb hbw k o ho hk W hW
   simpa using this
 | maybe j=>
  obtain⟨be,rfl,hb⟩:=hin
  refine⟨_,_,rfl,fun args w=>by simp[go_sem],fun W hW=>?_⟩
  simp only[Zx] at hv
  cases ho:evN N rules s.data.toList f j k with
  | none=>rw[ho] at hv;cases hv
  | some o=>
   rw[ho] at hv
   simp only[Option.map_some,Option.some.injEq] at hv
   subst hv
   have:=zfm M hC j be hb k o ho hk W hW
   simpa using this
 | plus j=>
  obtain⟨be,bp,rfl,hb,hp⟩:=hin
  refine⟨_,_,rfl,fun args w=>by simp[go_sem],fun W hW=>?_⟩
  have:=zfo M hC n j be bp hb hp k r hv hk W hW
  simpa using this
 | name i=>
  obtain⟨bm,bi,rfl,hbm,hbi⟩:=hin
  refine⟨_,_,rfl,fun args w=>by simp[go_sem],fun W hW=>?_⟩
  simp only[Zx] at hv
  cases hr:rules[i]? with
  | none=>rw[hr] at hv;cases hv
  | some j=>
   rw[hr] at hv
   simp only[] at hv
   cases ho:evN N rules s.data.toList f j k with
   | none=>rw[ho] at hv;cases hv
   | some o=>
    rw[ho] at hv
    simp only[Option.map_some,Option.some.injEq] at hv
    subst hv
    have:=zfn M hC i bm bi hbm hbi hrl hsz k j o hr ho hk W hW
    simpa using this
 | lit b=>
  obtain⟨bm,bt,rfl,hbm,hbt,hl⟩:=hin
  refine⟨_,_,rfl,fun args w=>by simp[go_sem],fun W hW=>?_⟩
  simp only[Zx,Option.some.injEq] at hv
  subst hv
  have:=zfl M b bm bt hbm hbt hl hsz k hk W hW
  simpa using this
 | cls l=>
  obtain⟨bm,bh,bs,u,rfl,hbm,hbh,hbs,hsp,hl⟩:=hin
  refine⟨_,_,rfl,fun args w=>by simp[go_sem],fun W hW=>?_⟩
  simp only[Zx,Option.some.injEq] at hv
  subst hv
  have hbsW:=hW.box M hbs
  have hspW:Qr W 0 u l:=Z6 hsp (fun g hg=>hW.old g (hsp.lt g hg).2 (by
   rintro rfl
   obtain⟨cur,hc⟩:=Zr hsp hg
   obtain⟨sv,tv,nv,hm⟩:=M.mat
   rw[hm] at hc
   simp at hc))
  have:=zbG M bm bh _ _ (Q7 l) hbm hbh hsz k hk W hW (fun args w=>by simp[go_sem]) (fun W1 c hB=>by
   have:=zes W1 u l c bs (by rw[hB.block _ (zd hbsW)];exact hbsW) (Z6 hspW (fun g hg=>hB.block _ (hspW.lt g hg).2)) (by omega)
   simpa using this)
  simpa using this
 | any=>
  obtain⟨bm,bh,rfl,hbm,hbh⟩:=hin
  refine⟨_,_,rfl,fun args w=>by simp[go_sem],fun W hW=>?_⟩
  simp only[Zx,Option.some.injEq] at hv
  subst hv
  have:=zbG M bm bh _ _ (fun _=>true) hbm hbh hsz k hk W hW (fun args w=>by simp[go_sem]) (fun W1 c hB=>by
   have:=zdN W1 (.int .u8 c.toNat)
   simpa using this)
  simpa using this
theorem zbh {wM:World} {mb tb:Nat} {N:List Nd} {bx:List (Nat × Nat × Nat)} {rules:List Nat} {vr:Value} {s:ByteArray} (M:Mde wM mb N bx rules vr) (hrl:rules.length≤100000) (hsz:s.size≤1000000):∀ f,JE wM mb tb N bx rules vr s f
 | 0=>fun _ _ _ _ h=>by cases h
 | f+1=>zet M (zfs M hrl hsz (zbh M hrl hsz f))
end Go.Proofs.YtiganlkabilblaaGreatDoor
namespace Go.Proofs.YtiganlkabilblaaGreatDoor
open Go.RowKit Thk
attribute [local go_sem ↓] Go.wp_at_zero Go.wp_at_succ
structure MR (wM:World) (mb:Nat) (vr:Value) (s0:ByteArray) (tv:Value) (w:World):Prop where
 size:wM.heap.size≤w.heap.size
 old:∀ b,b<wM.heap.size→b≠mb→w.heap[b]? = wM.heap[b]?
 mlt:mb<wM.heap.size
 blk:w.heap[mb]? = some (Zz vr s0 tv .nilIface)
theorem MR.below {wM:World} {mb:Nat} {vr:Value} {s0:ByteArray} {tv:Value} {B:Nat} {w w':World} (h:MR wM mb vr s0 tv w) (hb:Below B w w') (hm:mb<B) (hB:wM.heap.size≤B):MR wM mb vr s0 tv w':=
 ⟨Nat.le_trans h.size hb.size,fun b hb1 hb2=>(hb.block b (by omega)).trans (h.old b hb1 hb2),h.mlt,by rw[hb.block _ hm];exact h.blk⟩
theorem MR.ended {wM:World} {mb:Nat} {vr:Value} {s0:ByteArray} {tv:Value} {w:World} (h:MR wM mb vr s0 tv w):MR wM mb vr ⟨#[]⟩ (.map none) ((w.setCell ⟨mb,1,none⟩ (.string ⟨#[]⟩)).setCell ⟨mb,2,none⟩ (.map none)):=by
 refine⟨by simpa [World.setCell] using h.size,fun b hb hn=>?_,h.mlt,?_⟩
 ·rw[Below.heap_setCell _ _ _ _ hn,Below.heap_setCell _ _ _ _ hn];exact h.old b hb hn
 ·rw[zo (zo h.blk _) _];rfl
theorem zay (w:World) (u:FrameMode) (bm mb:Nat) (vr:Value) (s:ByteArray) (tv nv:Value) (h0:w.heap[bm]? = some (zh (z9 mb) 113)) (h:w.heap[mb]? = some (Zz vr s tv nv)) :
  CallsD Tryz.prog 83 #[z9 bm] u w fun e u' w'=>u'=u∧(e = .returned (.tuple #[])∧w'=(w.setCell ⟨mb,1,none⟩ (.string ⟨#[]⟩)).setCell ⟨mb,2,none⟩ (.map none)):=by
 have q0:=z8 h0
 have l0:=za h0
 have q:=z8 h
 have fz:=zi h
 have l:=za h
 clear h h0
 go_enter_d Tryz.func83,Tryz.ntmps83
 go_wp2_with fail
 go_end0
 exact⟨rfl,rfl⟩
structure TX (mb:Nat) (vr:Value) (s:ByteArray) (w X:World):Prop where
 os:X.os=w.os
 tape:X.tape=w.tape
 output:X.output=w.output
 size:X.heap.size=w.heap.size+3
 mat:X.heap[mb]? = some (Zz vr s (.map (some (w.heap.size+1+1))) .nilIface)
 old:∀ b,b<w.heap.size→b≠mb→X.heap[b]? = w.heap[b]?
 box:X.heap[w.heap.size]? = some (zh (z9 mb) 113)
 use:X.heap[w.heap.size+1]? = some JD
 tab:X.heap[w.heap.size+1+1]? = some (.map #[] 0)
theorem Vj (w:World) (a b c:Obj):(((w.alloc a).alloc b).alloc c).heap[w.heap.size]? = some a:=by
 rw[zm _ _ (by simp;omega),zm _ _ (by simp)];exact zk _ _
theorem Vk (w:World) (a b c:Obj):(((w.alloc a).alloc b).alloc c).heap[w.heap.size+1]? = some b:=by
 rw[zm _ _ (by simp)]
 have:=zk (w.alloc a) b
 simpa using this
theorem Vl (w:World) (a b c:Obj):(((w.alloc a).alloc b).alloc c).heap[w.heap.size+1+1]? = some c:=by
 have:=zk ((w.alloc a).alloc b) c
 simpa using this
theorem tx1 {w:World} {mb:Nat} {vr:Value} {s0 s:ByteArray} {tv:Value} (h:w.heap[mb]? = some (Zz vr s0 tv .nilIface)):TX mb vr s w (((((w.setCell ⟨mb,1,none⟩ (.string s)).alloc (zh (z9 mb) 113)).alloc JD).alloc (.map #[] 0)).setCell ⟨mb,2,none⟩ (.map (some (w.heap.size+1+1)))).drew:=by
 have hl:=zd h
 have hz:(w.setCell ⟨mb,1,none⟩ (.string s)).heap.size=w.heap.size:=by simp[World.setCell]
 have hA:∀ b,b<w.heap.size→((((w.setCell ⟨mb,1,none⟩ (.string s)).alloc (zh (z9 mb) 113)).alloc JD).alloc (.map #[] 0)).heap[b]? = (w.setCell ⟨mb,1,none⟩ (.string s)).heap[b]? := fun b hb=>(Qs _ _ _ _).block _ (by rw[hz];exact hb)
 have e0:=Vj (w.setCell ⟨mb,1,none⟩ (.string s)) (zh (z9 mb) 113) JD (.map #[] 0)
 have e1:=Vk (w.setCell ⟨mb,1,none⟩ (.string s)) (zh (z9 mb) 113) JD (.map #[] 0)
 have e2:=Vl (w.setCell ⟨mb,1,none⟩ (.string s)) (zh (z9 mb) 113) JD (.map #[] 0)
 rw[hz] at e0 e1 e2
 refine⟨rfl,rfl,rfl,?_,?_,?_,?_,?_,?_⟩
 ·show (World.setCell _ _ _).heap.size=_
  simp[World.setCell]
 ·show (World.setCell _ _ _).heap[mb]? = _
  have hm:=(hA mb hl).trans (zo h (.string s))
  rw[zo hm];rfl
 ·intro b hb hn
  show (World.setCell _ _ _).heap[b]? = _
  rw[Below.heap_setCell _ _ _ _ hn,hA b hb,Below.heap_setCell _ _ _ _ hn]
 ·show (World.setCell _ _ _).heap[w.heap.size]? = _
  rw[Below.heap_setCell _ _ _ _ (by simp;omega)];exact e0
 ·show (World.setCell _ _ _).heap[w.heap.size+1]? = _
  rw[Below.heap_setCell _ _ _ _ (by simp;omega)];exact e1
 ·show (World.setCell _ _ _).heap[w.heap.size+1+1]? = _
  rw[Below.heap_setCell _ _ _ _ (by simp;omega)];exact e2
theorem tx2 {w:World} {mb:Nat} {vr:Value} {s0 s:ByteArray} {tv:Value} (h:w.heap[mb]? = some (Zz vr s0 tv .nilIface)):TX mb vr s w (((((w.alloc (zh (z9 mb) 113)).alloc JD).alloc (.map #[] 0)).setCell ⟨mb,1,none⟩ (.string s)).setCell ⟨mb,2,none⟩ (.map (some (w.heap.size+1+1)))).drew:=by
 have hl:=zd h
 have hA:∀ b,b<w.heap.size→(((w.alloc (zh (z9 mb) 113)).alloc JD).alloc (.map #[] 0)).heap[b]? = w.heap[b]? := fun b hb=>(Qs _ _ _ _).block _ hb
 have e0:=Vj w (zh (z9 mb) 113) JD (.map #[] 0)
 have e1:=Vk w (zh (z9 mb) 113) JD (.map #[] 0)
 have e2:=Vl w (zh (z9 mb) 113) JD (.map #[] 0)
 refine⟨rfl,rfl,rfl,?_,?_,?_,?_,?_,?_⟩
 ·show (World.setCell _ _ _).heap.size=_
  simp[World.setCell]
 ·show (World.setCell _ _ _).heap[mb]? = _
  have hm:=(hA mb hl).trans h
  rw[zo (zo hm _) _];rfl
 ·intro b hb hn
  show (World.setCell _ _ _).heap[b]? = _
  rw[Below.heap_setCell _ _ _ _ hn,Below.heap_setCell _ _ _ _ hn,hA b hb]
 ·show (World.setCell _ _ _).heap[w.heap.size]? = _
  rw[Below.heap_setCell _ _ _ _ (by simp;omega),Below.heap_setCell _ _ _ _ (by simp;omega)];exact e0
 ·show (World.setCell _ _ _).heap[w.heap.size+1]? = _
  rw[Below.heap_setCell _ _ _ _ (by simp;omega),Below.heap_setCell _ _ _ _ (by simp;omega)];exact e1
 ·show (World.setCell _ _ _).heap[w.heap.size+1+1]? = _
  rw[Below.heap_setCell _ _ _ _ (by simp;omega),Below.heap_setCell _ _ _ _ (by simp;omega)];exact e2
theorem TX.ms {wM:World} {mb:Nat} {N:List Nd} {rules:List Nat} {vr:Value} {s0 s:ByteArray} {tv:Value} {w X:World} (h:MR wM mb vr s0 tv w) (t:TX mb vr s w X):MS wM mb (w.heap.size+1+1) N rules vr s .nil X:=by
 have h1:=h.size
 have h2:=t.size
 refine⟨by omega,fun b hb hn=>(t.old b (by omega) hn).trans (h.old b hb hn),h.mlt,t.mat,by omega,[],⟨#[],0,t.tab,rfl⟩,?_⟩
 intro n k r hh
 simp[ZK] at hh
theorem zj4 {wM:World} {mb:Nat} {N:List Nd} {bx:List (Nat × Nat × Nat)} {rules:List Nat} {vr:Value} {s s0:ByteArray} {tv:Value} (M:Mde wM mb N bx rules vr) (hrl:rules.length≤100000) (hsz:s.size≤1000000) (w:World) (h:MR wM mb vr s0 tv w) (f j:Nat) (o:Out) (hi:rules[0]? = some j) (hv:evN N rules s.data.toList f j 0=some o) :
  Calls Tryz.prog 60 #[z9 mb,.string s] w fun e w'=>e = .returned (.tuple #[J1 0 0 o,.bool o.isSome])∧MR wM mb vr ⟨#[]⟩ (.map none) w'∧KpM [mb] w.heap.size w w':=by
 have q:=z8 h.blk
 have fz:=zi h.blk
 have l:=za h.blk
 have HM:=z6 h
 have HU:Hid (∀ X,TX mb vr s w X→Calls Tryz.prog 84 #[z9 mb,.int .i64 0,.int .i64 0] X fun e w'=>e = .returned (.tuple #[J1 0 0 o,.bool o.isSome])∧Hid (MR wM mb vr s (.map (some (w.heap.size+1+1))) w')∧w'.heap[w.heap.size+1]? = some JD∧Hid (w'.heap[w.heap.size]? = some (zh (z9 mb) 113))∧Hid (KpM [mb] w.heap.size w w')):=z6 (fun X hX=>by
  have hm:=hX.ms (N:=N) (rules:=rules) h
  have hl:=zd h.blk
  have:=zdi M (zbh (tb:=w.heap.size+1+1) (s:=s) M hrl hsz f) 0 j 0 o hi hrl hv (Nat.zero_le _) X .nil hm
  refine Calls.mono this ?_
  rintro e w' ⟨h1,h2,h3⟩
  have hz:=hX.size
  refine⟨h1,z6 ⟨h2.size,h2.old,h2.mlt,h2.blk⟩,?_,z6 ?_,z6 ⟨h3.os.trans hX.os,h3.tape.trans hX.tape,h3.output.trans hX.output,by have:=h3.size;omega,fun b hb hn=>?_⟩⟩
  ·rw[h3.block _ (by omega) (by simp;omega)];exact hX.use
  ·rw[h3.block _ (by omega) (by simp;omega)];exact hX.box
  ·have hne:b≠mb:=by simpa using hn
   rw[h3.block _ (by omega) (by simp;omega)];exact hX.old b hb hne)
 clear h M hi hv
 have hmm:=@run_makeMap Tryz.prog
 have hb3:∀ a b c,(((w.alloc a).alloc b).alloc c).heap[mb]? = some (Zz vr s0 tv .nilIface):=fun a b c=>by rw[(Qs w a b c).block _ l];exact HM.out.blk
 have c1:∀ a b c,(((w.alloc a).alloc b).alloc c).cell? ⟨mb,1,none⟩=some (.string s0):=fun a b c=>z8 (hb3 a b c) 1
 have c2:∀ a b c,(((w.alloc a).alloc b).alloc c).cell? ⟨mb,2,none⟩=some tv:=fun a b c=>z8 (hb3 a b c) 2
 have g1:∀ a b c,(((w.alloc a).alloc b).alloc c).frozen? ⟨mb,1,none⟩=false:=fun a b c=>zi (hb3 a b c) 1
 have g2:∀ a b c,(((w.alloc a).alloc b).alloc c).frozen? ⟨mb,2,none⟩=false:=fun a b c=>zi (hb3 a b c) 2
 have hb4:∀ v a b c,((((w.setCell ⟨mb,1,none⟩ v).alloc a).alloc b).alloc c).heap[mb]? = some (.cells #[vr,v,tv,.nilIface] 177 (0,0)):=fun v a b c=>by
  rw[(Qs (w.setCell ⟨mb,1,none⟩ v) a b c).block _ (by simpa [World.setCell] using l),zo HM.out.blk];rfl
 have hb5:∀ v a b c,((((w.setCell ⟨mb,2,none⟩ v).alloc a).alloc b).alloc c).heap[mb]? = some (.cells #[vr,.string s0,v,.nilIface] 177 (0,0)):=fun v a b c=>by
  rw[(Qs (w.setCell ⟨mb,2,none⟩ v) a b c).block _ (by simpa [World.setCell] using l),zo HM.out.blk];rfl
 have c3:∀ v a b c,((((w.setCell ⟨mb,1,none⟩ v).alloc a).alloc b).alloc c).cell? ⟨mb,2,none⟩=some tv:=fun v a b c=>z8 (hb4 v a b c) 2
 have g3:∀ v a b c,((((w.setCell ⟨mb,1,none⟩ v).alloc a).alloc b).alloc c).frozen? ⟨mb,2,none⟩=false:=fun v a b c=>zi (hb4 v a b c) 2
 have c4:∀ v a b c,((((w.setCell ⟨mb,2,none⟩ v).alloc a).alloc b).alloc c).cell? ⟨mb,1,none⟩=some (.string s0):=fun v a b c=>z8 (hb5 v a b c) 1
 have g4:∀ v a b c,((((w.setCell ⟨mb,2,none⟩ v).alloc a).alloc b).alloc c).frozen? ⟨mb,1,none⟩=false:=fun v a b c=>zi (hb5 v a b c) 1
 clear hb3 hb4 hb5
 go_enter_defers Tryz.func60,Tryz.ntmps60
 go_wp2_with fail
 refine Yj ?_
 go_region
 all_goals refine Yi ?_
 all_goals go_wp2_with fail
 all_goals
  refine Calls.mono (HU.out _ (by first | exact tx1 HM.out.blk | exact tx2 HM.out.blk)) ?_
  rintro _ w1 ⟨rfl,HR1,hu1,HX1,HK1⟩
  have z0:=z8 hu1
  have f0:=zi hu1
  have l0:=za hu1
  have y0:=z8 HX1.out
  have HU1:=z6 hu1
  clear hu1 c1 c2 c3 c4 g1 g2 g3 g4 q fz
  cases o with
  | none=>
   have ho:J1 0 0 none = .agg #[.int .i64 0,.int .i64 0,.int .i64 0,.nilIface]:=rfl
   have ho2:Option.isSome (none:Out)=false:=rfl
   rw[ho,ho2]
   go_wp2_with fail
   obtain⟨X,hX⟩:∃ X,X=((((w1.setCell ⟨w.heap.size+1,0,none⟩ (.int .i64 0)).setCell ⟨w.heap.size+1,1,none⟩ (.int .i64 0)).setCell ⟨w.heap.size+1,2,none⟩ (.int .i64 0)).setCell ⟨w.heap.size+1,3,none⟩ (.nilIface)):=⟨_,rfl⟩
   have hbf:Below w.heap.size w1 X:=by
    rw[hX]
    exact ((((Below.refl _ _).setCell (p:=⟨w.heap.size+1,0,none⟩) (Nat.le_succ _) _).setCell (p:=⟨w.heap.size+1,1,none⟩) (Nat.le_succ _) _).setCell (p:=⟨w.heap.size+1,2,none⟩) (Nat.le_succ _) _).setCell (p:=⟨w.heap.size+1,3,none⟩) (Nat.le_succ _) _
   have x0:X.heap[w.heap.size+1]? = some (.cells #[.int .i64 0,.int .i64 0,.int .i64 0,.nilIface] 108 (0,0)):=by rw[hX,zo (zo (zo (zo HU1.out _) _) _) _];rfl
   have xb:X.heap[w.heap.size]? = some (zh (z9 mb) 113):=by
    rw[hX,Below.heap_setCell _ _ _ _ (by simp),Below.heap_setCell _ _ _ _ (by simp),Below.heap_setCell _ _ _ _ (by simp),Below.heap_setCell _ _ _ _ (by simp)];exact HX1.out
   have xr:=HR1.out.below hbf l HM.out.size
   rw[← hX]
   have xk:=HK1.out.low hbf
   refine leaves_cons (f:=83) (args:=#[z9 w.heap.size]) (by simp) (by simp[go_sem]) ?_
   refine (zay X .returning w.heap.size mb vr s _ _ xb xr.blk).mono ?_
   rintro e u' w'' ⟨rfl,rfl,hw⟩
   have hrb:w.heap.size+1≠mb:=by omega
   have hf:=xr.ended
   rw[← hw] at hf
   have hk:KpM [mb] w.heap.size w w'':=by rw[hw];exact (xk.set (by simp) _).set (by simp) _
   refine⟨_,KS rfl _ _ (w.heap.size+1) _ _ _ _ rfl (by rw[hw,Below.heap_setCell _ _ _ _ hrb,Below.heap_setCell _ _ _ _ hrb];exact x0) Tryz.underlying108 rfl (by kernel_rfl),?_⟩
   exact⟨rfl,hf,hk⟩
  | some x=>
   have hf:=QV x.2
   obtain⟨nv,hnv⟩:∃ nv,nv=ntV x.2:=⟨_,rfl⟩
   have hu:J1 0 0 (some x) = .agg #[.int .i64 0,.int .i64 0,.int .i64 x.1,nv]:=by rw[hnv];rfl
   have ho2:Option.isSome (some x:Out)=true:=rfl
   rw[hu,ho2]
   rw[← hnv] at hf
   have HUV:=z6 hu
   clear hu ho2 hnv
   rcases hf with rfl | ⟨t,v,rfl⟩
   ·go_wp2_with fail
    obtain⟨X,hX⟩:∃ X,X=((((w1.setCell ⟨w.heap.size+1,0,none⟩ (.int .i64 0)).setCell ⟨w.heap.size+1,1,none⟩ (.int .i64 0)).setCell ⟨w.heap.size+1,2,none⟩ (.int .i64 x.1)).setCell ⟨w.heap.size+1,3,none⟩ (.nilIface)):=⟨_,rfl⟩
    have hbf:Below w.heap.size w1 X:=by
     rw[hX]
     exact ((((Below.refl _ _).setCell (p:=⟨w.heap.size+1,0,none⟩) (Nat.le_succ _) _).setCell (p:=⟨w.heap.size+1,1,none⟩) (Nat.le_succ _) _).setCell (p:=⟨w.heap.size+1,2,none⟩) (Nat.le_succ _) _).setCell (p:=⟨w.heap.size+1,3,none⟩) (Nat.le_succ _) _
    have x0:X.heap[w.heap.size+1]? = some (.cells #[.int .i64 0,.int .i64 0,.int .i64 x.1,.nilIface] 108 (0,0)):=by rw[hX,zo (zo (zo (zo HU1.out _) _) _) _];rfl
    have xb:X.heap[w.heap.size]? = some (zh (z9 mb) 113):=by
     rw[hX,Below.heap_setCell _ _ _ _ (by simp),Below.heap_setCell _ _ _ _ (by simp),Below.heap_setCell _ _ _ _ (by simp),Below.heap_setCell _ _ _ _ (by simp)];exact HX1.out
    have xr:=HR1.out.below hbf l HM.out.size
    rw[← hX]
    have xk:=HK1.out.low hbf
    refine leaves_cons (f:=83) (args:=#[z9 w.heap.size]) (by simp) (by simp[go_sem]) ?_
    refine (zay X .returning w.heap.size mb vr s _ _ xb xr.blk).mono ?_
    rintro e u' w'' ⟨rfl,rfl,hw⟩
    have hrb:w.heap.size+1≠mb:=by omega
    have hf:=xr.ended
    rw[← hw] at hf
    have hk:KpM [mb] w.heap.size w w'':=by rw[hw];exact (xk.set (by simp) _).set (by simp) _
    refine⟨_,KS rfl _ _ (w.heap.size+1) _ _ _ _ rfl (by rw[hw,Below.heap_setCell _ _ _ _ hrb,Below.heap_setCell _ _ _ _ hrb];exact x0) Tryz.underlying108 rfl (by kernel_rfl),?_⟩
    exact⟨by rw[HUV.out];rfl,hf,hk⟩
   ·go_wp2_with fail
    obtain⟨X,hX⟩:∃ X,X=((((w1.setCell ⟨w.heap.size+1,0,none⟩ (.int .i64 0)).setCell ⟨w.heap.size+1,1,none⟩ (.int .i64 0)).setCell ⟨w.heap.size+1,2,none⟩ (.int .i64 x.1)).setCell ⟨w.heap.size+1,3,none⟩ (.iface t v)):=⟨_,rfl⟩
    have hbf:Below w.heap.size w1 X:=by
     rw[hX]
     exact ((((Below.refl _ _).setCell (p:=⟨w.heap.size+1,0,none⟩) (Nat.le_succ _) _).setCell (p:=⟨w.heap.size+1,1,none⟩) (Nat.le_succ _) _).setCell (p:=⟨w.heap.size+1,2,none⟩) (Nat.le_succ _) _).setCell (p:=⟨w.heap.size+1,3,none⟩) (Nat.le_succ _) _
    have x0:X.heap[w.heap.size+1]? = some (.cells #[.int .i64 0,.int .i64 0,.int .i64 x.1,.iface t v] 108 (0,0)):=by rw[hX,zo (zo (zo (zo HU1.out _) _) _) _];rfl
    have xb:X.heap[w.heap.size]? = some (zh (z9 mb) 113):=by
     rw[hX,Below.heap_setCell _ _ _ _ (by simp),Below.heap_setCell _ _ _ _ (by simp),Below.heap_setCell _ _ _ _ (by simp),Below.heap_setCell _ _ _ _ (by simp)];exact HX1.out
    have xr:=HR1.out.below hbf l HM.out.size
    rw[← hX]
    have xk:=HK1.out.low hbf
    refine leaves_cons (f:=83) (args:=#[z9 w.heap.size]) (by simp) (by simp[go_sem]) ?_
    refine (zay X .returning w.heap.size mb vr s _ _ xb xr.blk).mono ?_
    rintro e u' w'' ⟨rfl,rfl,hw⟩
    have hrb:w.heap.size+1≠mb:=by omega
    have hf:=xr.ended
    rw[← hw] at hf
    have hk:KpM [mb] w.heap.size w w'':=by rw[hw];exact (xk.set (by simp) _).set (by simp) _
    refine⟨_,KS rfl _ _ (w.heap.size+1) _ _ _ _ rfl (by rw[hw,Below.heap_setCell _ _ _ _ hrb,Below.heap_setCell _ _ _ _ hrb];exact x0) Tryz.underlying108 rfl (by kernel_rfl),?_⟩
    exact⟨by rw[HUV.out];rfl,hf,hk⟩
abbrev Qd (mb:Nat) (nv:Value) (n:Nat):Obj:=.cells #[z9 mb,nv,.int .i64 n] 224 (0,0)
theorem zch {w:World} {kb mb n:Nat} {nv:Value} (h:w.heap[kb]? = some (Qd mb nv n)) (a b c:Obj) :
  ((((w.alloc a).alloc b).alloc c).setCell ⟨kb,2,none⟩ (.int .i64 ((n:Int)+1))).drew.heap[w.heap.size]? = some a∧((((w.alloc a).alloc b).alloc c).setCell ⟨kb,2,none⟩ (.int .i64 ((n:Int)+1))).drew.heap[w.heap.size+1]? = some b∧((((w.alloc a).alloc b).alloc c).setCell ⟨kb,2,none⟩ (.int .i64 ((n:Int)+1))).drew.heap[w.heap.size+1+1]? = some c ∧
  ((((w.alloc a).alloc b).alloc c).setCell ⟨kb,2,none⟩ (.int .i64 ((n:Int)+1))).drew.heap[kb]? = some (Qd mb nv (n+1))∧KpM [kb] w.heap.size w ((((w.alloc a).alloc b).alloc c).setCell ⟨kb,2,none⟩ (.int .i64 ((n:Int)+1))).drew:=by
 have hl:=zd h
 have hk:(((w.alloc a).alloc b).alloc c).heap[kb]? = some (Qd mb nv n):=by rw[(Qs w a b c).block _ hl];exact h
 refine⟨?_,?_,?_,?_,?_⟩
 ·show (World.setCell _ _ _).heap[w.heap.size]? = _
  rw[Below.heap_setCell _ _ _ _ (by simp;omega)];exact Vj w a b c
 ·show (World.setCell _ _ _).heap[w.heap.size+1]? = _
  rw[Below.heap_setCell _ _ _ _ (by simp;omega)];exact Vk w a b c
 ·show (World.setCell _ _ _).heap[w.heap.size+1+1]? = _
  rw[Below.heap_setCell _ _ _ _ (by simp;omega)];exact Vl w a b c
 ·show (World.setCell _ _ _).heap[kb]? = _
  rw[zo hk];rfl
 ·have hb:=Qs w a b c
  refine⟨rfl,rfl,rfl,?_,fun k hk hn=>?_⟩
  ·show w.heap.size≤(World.setCell _ _ _).heap.size
   simp[World.setCell];omega
  ·show (World.setCell _ _ _).heap[k]? = _
   rw[Below.heap_setCell _ _ _ _ (by simpa using hn),hb.block _ hk]
theorem zci (w:World) (kb mb n:Nat) (nv:Value) (g:Nat) (caps:Array Value) (hn:n≤100000000) (h:w.heap[kb]? = some (Qd mb nv n)) :
  Calls Tryz.prog 150 #[z9 kb,.func (.func g) #[] caps] w fun e w'=>∃ x:Nat × Nat × Nat,e = .returned (zT x)∧w'.heap[x.1]? = some (zh (z9 mb) 113)∧w'.heap[x.2.1]? = some (zh (.int .i64 n) 3)∧w'.heap[x.2.2]? = some (zh (.func (.func g) #[] caps) 226)∧w'.heap[kb]? = some (Qd mb nv (n+1))∧KpM [kb] w.heap.size w w'∧w.heap.size≤x.1∧w.heap.size≤x.2.1∧w.heap.size≤x.2.2:=by
 have q:=z8 h
 have fz:=zi h
 have l:=za h
 have H:=z6 h
 have hmf:∀ (fn:Fn) (first cap:Array Value) (w:World),(Instr.makeFunc fn first cap).run Tryz.prog w = .ok (.func fn first cap) w:=fun _ _ _ _=>rfl
 have hb3:∀ a b c,(((w.alloc a).alloc b).alloc c).heap[kb]? = some (Qd mb nv n):=fun a b c=>by rw[(Qs w a b c).block _ (zd h)];exact h
 have c1:∀ a b c,(((w.alloc a).alloc b).alloc c).cell? ⟨kb,0,none⟩=some (z9 mb):=fun a b c=>z8 (hb3 a b c) 0
 have c2:∀ a b c,(((w.alloc a).alloc b).alloc c).cell? ⟨kb,2,none⟩=some (.int .i64 n):=fun a b c=>z8 (hb3 a b c) 2
 have g2:∀ a b c,(((w.alloc a).alloc b).alloc c).frozen? ⟨kb,2,none⟩=false:=fun a b c=>zi (hb3 a b c) 2
 clear h hb3
 go_enter Tryz.func150,Tryz.ntmps150
 go_wp2_with fail
 go_region
 all_goals go_wp2_with fail
 ·go_ret
  have hw:=zch H.out (zh (.func (.func g) #[] caps) 226) (zh (z9 mb) 113) (zh (.int .i64 n) 3)
  exact⟨(w.heap.size+1,w.heap.size+1+1,w.heap.size),rfl,hw.2.1,hw.2.2.1,hw.1,hw.2.2.2.1,hw.2.2.2.2,by show _≤_+1;omega,by show _≤_+1+1;omega,Nat.le_refl _⟩
 ·go_ret
  have hw:=zch H.out (zh (.func (.func g) #[] caps) 226) (zh (.int .i64 n) 3) (zh (z9 mb) 113)
  exact⟨(w.heap.size+1+1,w.heap.size+1,w.heap.size),rfl,hw.2.2.1,hw.2.1,hw.1,hw.2.2.2.1,hw.2.2.2.2,by show _≤_+1+1;omega,by show _≤_+1;omega,Nat.le_refl _⟩
end Go.Proofs.YtiganlkabilblaaGreatDoor
namespace Go.Proofs.YtiganlkabilblaaGreatDoor
open Go.RowKit Thk
def Kj (m:Nat):Nd→Prop
 | .choice ks=>∀ k ∈ ks,k<m
 | .seq ks=>∀ k ∈ ks,k<m
 | .ahead k _=>k<m
 | .maybe k=>k<m
 | .plus k=>k<m
 | _=>True
theorem zcg {m m':Nat} (h:m≤m'):∀ {d:Nd},Kj m d→Kj m' d
 | .choice _,hr=>fun k hk=>Nat.lt_of_lt_of_le (hr k hk) h
 | .seq _,hr=>fun k hk=>Nat.lt_of_lt_of_le (hr k hk) h
 | .ahead _ _,hr=>Nat.lt_of_lt_of_le hr h
 | .maybe _,hr=>Nat.lt_of_lt_of_le hr h
 | .plus _,hr=>Nat.lt_of_lt_of_le hr h
 | .name _,_=>trivial
 | .lit _,_=>trivial
 | .cls _,_=>trivial
 | .any,_=>trivial
theorem Y5 {bx:List (Nat × Nat × Nat)} {k:Nat} (h:k<bx.length) (y:List (Nat × Nat × Nat)):clV (bx++y) k=clV bx k:=by
 unfold clV
 rw[List.getD_eq_getElem?_getD,List.getD_eq_getElem?_getD,List.getElem?_append_left h]
def Clo (w:World) (mb:Nat) (N:List Nd) (bx:List (Nat × Nat × Nat)):Prop:=∀ n d,N[n]? = some d→Kj N.length d∧∃ iv,w.heap[(bx.getD n (0,0,0)).1]? = some (zh (z9 mb) 113)∧w.heap[(bx.getD n (0,0,0)).2.1]? = some (zh (.int .i64 n) 3)∧w.heap[(bx.getD n (0,0,0)).2.2]? = some (zh iv 226)∧Inn w mb bx n iv d
structure Mk (w:World) (kb mb nb:Nat) (N:List Nd) (bx:List (Nat × Nat × Nat)) (S:Nat→Prop):Prop where
 blk:w.heap[kb]? = some (Qd mb (.map (some nb)) N.length)
 mlt:mb<w.heap.size
 len:bx.length=N.length
 nk:¬ S kb
 lt:∀ g,S g→g<w.heap.size
 clo:∀ w':World,w.heap.size≤w'.heap.size→(∀ g,S g→w'.heap[g]? = w.heap[g]?)→Clo w' mb N bx
structure Up (kb:Nat) (w w':World):Prop where
 size:w.heap.size≤w'.heap.size
 old:∀ b,b<w.heap.size→b≠kb→w'.heap[b]? = w.heap[b]?
theorem Up.of_kpM {kb:Nat} {w w':World} (h:KpM [kb] w.heap.size w w'):Up kb w w':=⟨h.size,fun b hb hn=>h.block b hb (by simpa using hn)⟩
theorem Up.of_below {kb:Nat} {w w':World} (h:Below w.heap.size w w'):Up kb w w':=⟨h.size,fun b hb _=>h.block b hb⟩
theorem Up.box {kb mb nb n:Nat} {w w':World} (u:Up kb w w') (hk:w.heap[kb]? = some (Qd mb (.map (some nb)) n)) {b:Nat} {v:Value} {t:TypeId} (h:w.heap[b]? = some (zh v t)):w'.heap[b]? = some (zh v t):=by
 rw[u.old b (zd h) (by rintro rfl;rw[hk] at h;simp at h)];exact h
theorem Yu.app {w:World} {mb:Nat} {bx:List (Nat × Nat × Nat)} {ks:List Nat} {a:Option Addr} (h:Yu w mb bx ks a) (hr:∀ k ∈ ks,k<bx.length) (y:List (Nat × Nat × Nat)):Yu w mb (bx++y) ks a:=by
 intro j hj
 obtain⟨g,h1,h2,h3,h4⟩:=h j hj
 exact⟨g,h1,h2,h3,by rw[Y5 (hr _ (List.getElem_mem hj))];exact h4⟩
theorem Inn.app {mb:Nat} {w:World} {bx:List (Nat × Nat × Nat)} {n:Nat} {iv:Value} {d:Nd} (h:Inn w mb bx n iv d) (hr:Kj bx.length d) (hn:n<bx.length) (y:List (Nat × Nat × Nat)):Inn w mb (bx++y) n iv d:=by
 cases d with
 | choice ks=>
  obtain⟨bs,a,c,h1,h2,h3,h4⟩:=h
  exact⟨bs,a,c,h1,h2,h3.app hr y,h4⟩
 | seq ks=>
  obtain⟨bm,bs,a,c,h1,h2,h3,h4,h5⟩:=h
  exact⟨bm,bs,a,c,h1,h2,h3,h4.app hr y,h5⟩
 | ahead k wd=>
  obtain⟨bm,be,bw,h1,h2,h3,h4⟩:=h
  exact⟨bm,be,bw,h1,h2,by rw[Y5 hr];exact h3,h4⟩
 | maybe k=>
  obtain⟨be,h1,h2⟩:=h
  exact⟨be,h1,by rw[Y5 hr];exact h2⟩
 | plus k=>
  obtain⟨be,bp,h1,h2,h3⟩:=h
  exact⟨be,bp,h1,by rw[Y5 hr];exact h2,by rw[Y5 hn];exact h3⟩
 | name i=>exact h
 | lit b=>exact h
 | cls l=>exact h
 | any=>exact h
theorem Clo.push {mb:Nat} {N:List Nd} {bx:List (Nat × Nat × Nat)} {w:World} (h:Clo w mb N bx) (hl:bx.length=N.length) {x:Nat × Nat × Nat} {iv:Value} {d:Nd} (hr:Kj N.length d)
  (h1:w.heap[x.1]? = some (zh (z9 mb) 113)) (h2:w.heap[x.2.1]? = some (zh (.int .i64 N.length) 3)) (h3:w.heap[x.2.2]? = some (zh iv 226)) (h4:Inn w mb (bx++[x]) N.length iv d):Clo w mb (N++[d]) (bx++[x]):=by
 intro n d' hn
 rw[List.length_append]
 by_cases hlt:n<N.length
 ·rw[List.getElem?_append_left hlt] at hn
  obtain⟨hr',iv',e1,e2,e3,e4⟩:=h n d' hn
  have hbl:n<bx.length:=by rw[hl];exact hlt
  have hg:(bx++[x]).getD n (0,0,0)=bx.getD n (0,0,0):=by
   rw[List.getD_eq_getElem?_getD,List.getD_eq_getElem?_getD,List.getElem?_append_left hbl]
  rw[hg]
  exact⟨zcg (Nat.le_add_right _ _) hr',iv',e1,e2,e3,e4.app (by rw[hl];exact hr') hbl [x]⟩
 ·have hn2:=(List.getElem?_eq_some_iff.mp hn).1
  have he:n=N.length:=by simp at hn2;omega
  subst he
  rw[List.getElem?_append_right (Nat.le_refl _),Nat.sub_self] at hn
  simp only[List.getElem?_cons_zero,Option.some.injEq] at hn
  subst hn
  have hg:(bx++[x]).getD N.length (0,0,0)=x:=by
   rw[List.getD_eq_getElem?_getD,List.getElem?_append_right (by rw[hl];exact Nat.le_refl _),hl,Nat.sub_self];rfl
  rw[hg]
  exact⟨zcg (Nat.le_add_right _ _) hr,iv,h1,h2,h3,h4⟩
theorem Mk.now {kb mb nb:Nat} {N:List Nd} {bx:List (Nat × Nat × Nat)} {S:Nat→Prop} {w:World} (h:Mk w kb mb nb N bx S):Clo w mb N bx:=h.clo w (Nat.le_refl _) (fun _ _=>rfl)
theorem Mk.same {kb mb nb:Nat} {N:List Nd} {bx:List (Nat × Nat × Nat)} {S:Nat→Prop} {w w':World} (h:Mk w kb mb nb N bx S) (hs:w.heap.size≤w'.heap.size) (hg:∀ g,S g→w'.heap[g]? = w.heap[g]?) (hb:w'.heap[kb]? = w.heap[kb]?):Mk w' kb mb nb N bx S:=
 ⟨by rw[hb];exact h.blk,Nat.lt_of_lt_of_le h.mlt hs,h.len,h.nk,fun g x=>Nat.lt_of_lt_of_le (h.lt g x) hs,fun w2 h2 h3=>h.clo w2 (Nat.le_trans hs h2) (fun g x=>(h3 g x).trans (hg g x))⟩
theorem Mk.below {kb mb nb:Nat} {N:List Nd} {bx:List (Nat × Nat × Nat)} {S:Nat→Prop} {w w':World} (h:Mk w kb mb nb N bx S) (hb:Below w.heap.size w w'):Mk w' kb mb nb N bx S:=
 h.same hb.size (fun g x=>hb.block g (h.lt g x)) (hb.block _ (zd h.blk))
def QA (w:World) (g:Nat):Prop:=∃ cur,w.heap[g]? = some (.cells cur 313 (0,0))
def GrS (w:World) (S S':Nat→Prop):Prop:=∀ g,S' g→S g∨w.heap.size≤g∨QA w g
theorem QA.back {kb mb nb n g:Nat} {w w':World} (hk:w.heap[kb]? = some (Qd mb (.map (some nb)) n)) (hk':∃ m,w'.heap[kb]? = some (Qd mb (.map (some nb)) m)) (u:Up kb w w') (h:QA w' g):w.heap.size≤g∨QA w g:=by
 rcases Nat.lt_or_ge g w.heap.size with hl | hl
 ·obtain⟨cur,hc⟩:=h
  obtain⟨m,hk'⟩:=hk'
  refine .inr ⟨cur,?_⟩
  rw[← u.old g hl (by rintro rfl;rw[hk'] at hc;simp at hc)];exact hc
 ·exact .inl hl
theorem GrS.refl (w:World) (S:Nat→Prop):GrS w S S:=fun _ h=>.inl h
theorem GrS.trans {kb mb nb n:Nat} {w w':World} {S S1 S2:Nat→Prop} (h1:GrS w S S1) (h2:GrS w' S1 S2) (hk:w.heap[kb]? = some (Qd mb (.map (some nb)) n)) (hk':∃ m,w'.heap[kb]? = some (Qd mb (.map (some nb)) m)) (u:Up kb w w'):GrS w S S2:=fun g hg=>by
 rcases h2 g hg with h | h | h
 ·exact h1 g h
 ·exact .inr (.inl (Nat.le_trans u.size h))
 ·exact .inr (h.back hk hk' u)
theorem GrS.below {w w':World} {S S1 S2:Nat→Prop} (h1:GrS w S S1) (h2:GrS w' S1 S2) (hb:Below w.heap.size w w'):GrS w S S2:=fun g hg=>by
 rcases h2 g hg with h | h | ⟨cur,hc⟩
 ·exact h1 g h
 ·exact .inr (.inl (Nat.le_trans hb.size h))
 ·rcases Nat.lt_or_ge g w.heap.size with hl | hl
  ·exact .inr (.inr ⟨cur,by rw[← hb.block g hl];exact hc⟩)
  ·exact .inr (.inl hl)
end Go.Proofs.YtiganlkabilblaaGreatDoor
namespace Go.Proofs.YtiganlkabilblaaGreatDoor
open Go.RowKit Thk
attribute [local go_sem ↓] Go.wp_at_zero Go.wp_at_succ
abbrev Qg (kb mb nb:Nat) (N:List Nd) (bx:List (Nat × Nat × Nat)) (S:Nat→Prop) (d:Nd) (w:World):Ending→World→Prop:=fun e w'=>∃ x S',e = .returned (zT x)∧Mk w' kb mb nb (N++[d]) (bx++[x]) S'∧KpM [kb] w.heap.size w w'∧GrS w S S'
theorem zeo {bx:List (Nat × Nat × Nat)} {N:List Nd} (h:bx.length=N.length) (x:Nat × Nat × Nat):clV (bx++[x]) N.length=zT x:=by
 unfold clV
 rw[List.getD_eq_getElem?_getD,List.getElem?_append_right (by rw[h];exact Nat.le_refl _),h,Nat.sub_self];rfl
theorem zab {kb mb nb:Nat} {N:List Nd} {bx:List (Nat × Nat × Nat)} {S:Nat→Prop} {W:World} (h:Mk W kb mb nb N bx S) (hN:N.length≤100000000) (g:Nat) (caps:Array Value) {d:Nd} (hr:Kj N.length d) (E:Nat→Prop) (hE:∀ b,E b→b<W.heap.size∧b≠kb)
  (hI:∀ (x:Nat × Nat × Nat) (w':World),W.heap.size≤w'.heap.size→(∀ b,E b→w'.heap[b]? = W.heap[b]?)→Inn w' mb (bx++[x]) N.length (.func (.func g) #[] caps) d) :
  Calls Tryz.prog 150 #[z9 kb,.func (.func g) #[] caps] W fun e w'=>∃ x S',e = .returned (zT x)∧Mk w' kb mb nb (N++[d]) (bx++[x]) S'∧KpM [kb] W.heap.size W w'∧∀ b,S' b→S b∨E b∨W.heap.size≤b:=by
 refine (zci W kb mb N.length (.map (some nb)) g caps hN h.blk).mono ?_
 rintro e w' ⟨x,h1,h2,h3,h4,h5,h6,l1,l2,l3⟩
 have hU:=Up.of_kpM h6
 have hsz:=hU.size
 refine⟨x,fun b=>S b∨E b∨(W.heap.size≤b∧b<w'.heap.size),h1,⟨by rw[List.length_append];exact h5,Nat.lt_of_lt_of_le h.mlt hsz,by simp[h.len],?_,?_,?_⟩,h6,?_⟩
 ·rintro (h' | h' | h')
  ·exact h.nk h'
  ·exact (hE _ h').2 rfl
  ·have:=zd h.blk;omega
 ·rintro b (h' | h' | h')
  ·have:=h.lt b h';omega
  ·have:=(hE b h').1;omega
  ·exact h'.2
 ·intro w2 hs hg
  have hc:=h.clo w2 (Nat.le_trans hsz hs) (fun b hb=>(hg b (.inl hb)).trans (hU.old b (h.lt b hb) (fun e=>h.nk (e ▸ hb))))
  exact hc.push h.len hr ((hg _ (.inr (.inr ⟨l1,zd h2⟩))).trans h2) ((hg _ (.inr (.inr ⟨l2,zd h3⟩))).trans h3) ((hg _ (.inr (.inr ⟨l3,zd h4⟩))).trans h4)
   (hI x w2 (Nat.le_trans hsz hs) (fun b hb=>(hg b (.inr (.inl hb))).trans (hU.old b (hE b hb).1 (hE b hb).2)))
 ·rintro b (h' | h' | h')
  ·exact .inl h'
  ·exact .inr (.inl h')
  ·exact .inr (.inr h'.1)
theorem Kf {kb mb nb:Nat} {N:List Nd} {bx:List (Nat × Nat × Nat)} {S:Nat→Prop} {w:World} (h:Mk w kb mb nb N bx S) (hN:N.length≤100000000) {W:World} (hB:Below w.heap.size w W) (g:Nat) (caps:Array Value) {d:Nd} (hr:Kj N.length d)
  (hI:∀ (x:Nat × Nat × Nat) (w':World),(∀ (b:Nat) (v:Value) (t:TypeId),w.heap.size≤b→W.heap[b]? = some (zh v t)→w'.heap[b]? = some (zh v t))→(∀ b,QA w b→w'.heap[b]? = w.heap[b]?)→Inn w' mb (bx++[x]) N.length (.func (.func g) #[] caps) d) :
  Calls Tryz.prog 150 #[z9 kb,.func (.func g) #[] caps] W (Qg kb mb nb N bx S d w):=by
 have hsz:=hB.size
 have hlt:∀ b,QA w b→b<w.heap.size:=fun b ⟨cur,hc⟩=>zd hc
 refine (zab (h.below hB) hN g caps hr (fun b=>(w.heap.size≤b∧b<W.heap.size)∨QA w b) ?_ ?_).mono ?_
 ·rintro b (h' | h')
  ·exact⟨h'.2,by have:=zd h.blk;omega⟩
  ·refine⟨by have:=hlt b h';omega,?_⟩
   rintro rfl
   obtain⟨cur,hc⟩:=h'
   rw[h.blk] at hc
   simp at hc
 ·intro x w' hs hg
  exact hI x w' (fun b v t hb hh=>(hg b (.inl ⟨hb,zd hh⟩)).trans hh) (fun b hb=>(hg b (.inr hb)).trans (hB.block b (hlt b hb)))
 ·rintro e w' ⟨x,S',h1,h2,h3,h4⟩
  refine⟨x,S',h1,h2,(KpM.of_below hB).trans (h3.mono hsz),fun b hb=>?_⟩
  rcases h4 b hb with h' | (h' | h') | h'
  ·exact .inl h'
  ·exact .inr (.inl h'.1)
  ·exact .inr (.inr h')
  ·exact .inr (.inl (Nat.le_trans hsz h'))
theorem zbQ {kb mb nb:Nat} {N:List Nd} {bx:List (Nat × Nat × Nat)} {S:Nat→Prop} {w:World} (h:Mk w kb mb nb N bx S) (hN:N.length≤100000000) (j:Nat) (hj:j<N.length) :
  Calls Tryz.prog 200 #[z9 kb,clV bx j] w (Qg kb mb nb N bx S (.maybe j) w):=by
 have hjb:j<bx.length:=by rw[h.len];exact hj
 have HM:=z6 (Kf h hN (zc w (zh (clV bx j) 226)) 212 #[z9 w.heap.size] (d:=.maybe j) hj (fun x w' hb _=>⟨w.heap.size,rfl,by rw[Y5 hjb];exact hb _ _ _ (Nat.le_refl _) (zk w _)⟩))
 have hmf:∀ (fn:Fn) (first cap:Array Value) (w:World),(Instr.makeFunc fn first cap).run Tryz.prog w = .ok (.func fn first cap) w:=fun _ _ _ _=>rfl
 clear h
 simp only[clV,zT] at HM ⊢
 generalize (bx.getD j (0,0,0)).1=x1 at *
 generalize (bx.getD j (0,0,0)).2.1=x2 at *
 generalize (bx.getD j (0,0,0)).2.2=x3 at *
 go_enter Tryz.func200,Tryz.ntmps200
 go_wp2_with fail
 refine HM.out.mono ?_
 rintro _ w1 ⟨x,S1,rfl,h1,h2,h3⟩
 go_wp2_with fail
 go_ret
 exact⟨x,S1,rfl,h1,h2,h3⟩
theorem zaV {kb mb nb:Nat} {N:List Nd} {bx:List (Nat × Nat × Nat)} {S:Nat→Prop} {w:World} (h:Mk w kb mb nb N bx S) (hN:N.length≤100000000) (j:Nat) (hj:j<N.length) (wd:Bool) :
  Calls Tryz.prog 191 #[z9 kb,clV bx j,.bool wd] w (Qg kb mb nb N bx S (.ahead j wd) w):=by
 have hjb:j<bx.length:=by rw[h.len];exact hj
 have q:=z8 h.blk
 have l:=za h.blk
 have HM:=z6 (Kf h hN (Qs w (zh (clV bx j) 226) (zh (.bool wd) 4) (zh (z9 mb) 113)) 202 #[z9 (w.heap.size+1+1),z9 w.heap.size,z9 (w.heap.size+1)] (d:=.ahead j wd) hj (fun x w' hb _=>⟨w.heap.size+1+1,w.heap.size,w.heap.size+1,rfl,hb _ _ _ (by omega) (Vl w _ _ _),by rw[Y5 hjb];exact hb _ _ _ (Nat.le_refl _) (Vj w _ _ _),hb _ _ _ (by omega) (Vk w _ _ _)⟩))
 have hmf:∀ (fn:Fn) (first cap:Array Value) (w:World),(Instr.makeFunc fn first cap).run Tryz.prog w = .ok (.func fn first cap) w:=fun _ _ _ _=>rfl
 clear h
 simp only[clV,zT] at HM ⊢
 generalize (bx.getD j (0,0,0)).1=x1 at *
 generalize (bx.getD j (0,0,0)).2.1=x2 at *
 generalize (bx.getD j (0,0,0)).2.2=x3 at *
 go_enter Tryz.func191,Tryz.ntmps191
 go_wp2_with fail
 refine HM.out.mono ?_
 rintro _ w1 ⟨x,S1,rfl,h1,h2,h3⟩
 go_wp2_with fail
 go_ret
 exact⟨x,S1,rfl,h1,h2,h3⟩
theorem zfX {kb mb nb:Nat} {N:List Nd} {bx:List (Nat × Nat × Nat)} {S:Nat→Prop} {w:World} (h:Mk w kb mb nb N bx S) (hN:N.length≤100000000) (b:z7) (hb:b.length≤20) :
  Calls Tryz.prog 208 #[z9 kb,.string ⟨b.toArray⟩] w (Qg kb mb nb N bx S (.lit b) w):=by
 have q:=z8 h.blk
 have l:=za h.blk
 have HM:=z6 (Kf h hN (QY w (zh (.string ⟨b.toArray⟩) 9) (zh (z9 mb) 113)) 216 #[z9 (w.heap.size+1),z9 w.heap.size] (d:=.lit b) trivial (fun x w' hh _=>⟨w.heap.size+1,w.heap.size,rfl,hh _ _ _ (by omega) (by have:=zk (w.alloc (zh (.string ⟨b.toArray⟩) 9)) (zh (z9 mb) 113);simpa using this),hh _ _ _ (Nat.le_refl _) (by rw[zm _ _ (by simp)];exact zk w _),hb⟩))
 have hmf:∀ (fn:Fn) (first cap:Array Value) (w:World),(Instr.makeFunc fn first cap).run Tryz.prog w = .ok (.func fn first cap) w:=fun _ _ _ _=>rfl
 clear h
 go_enter Tryz.func208,Tryz.ntmps208
 go_wp2_with fail
 refine HM.out.mono ?_
 rintro _ w1 ⟨x,S1,rfl,h1,h2,h3⟩
 go_wp2_with fail
 go_ret
 exact⟨x,S1,rfl,h1,h2,h3⟩
theorem ziM {kb mb nb:Nat} {N:List Nd} {bx:List (Nat × Nat × Nat)} {S:Nat→Prop} {w:World} (h:Mk w kb mb nb N bx S) (hN:N.length≤100000000) :
  Calls Tryz.prog 210 #[z9 kb,.func (.func 211) #[] #[]] w (Qg kb mb nb N bx S .any w):=by
 have q:=z8 h.blk
 have l:=za h.blk
 have HM:=z6 (Kf h hN (QY w (zh (.func (.func 211) #[] #[]) 287) (zh (z9 mb) 113)) 220 #[z9 (w.heap.size+1),z9 w.heap.size] (d:=.any) trivial (fun x w' hh _=>⟨w.heap.size+1,w.heap.size,rfl,hh _ _ _ (by omega) (by have:=zk (w.alloc (zh (.func (.func 211) #[] #[]) 287)) (zh (z9 mb) 113);simpa using this),hh _ _ _ (Nat.le_refl _) (by rw[zm _ _ (by simp)];exact zk w _)⟩))
 have hmf:∀ (fn:Fn) (first cap:Array Value) (w:World),(Instr.makeFunc fn first cap).run Tryz.prog w = .ok (.func fn first cap) w:=fun _ _ _ _=>rfl
 clear h
 go_enter Tryz.func210,Tryz.ntmps210
 go_wp2_with fail
 refine HM.out.mono ?_
 rintro _ w1 ⟨x,S1,rfl,h1,h2,h3⟩
 go_wp2_with fail
 go_ret
 exact⟨x,S1,rfl,h1,h2,h3⟩
theorem ziN {kb mb nb:Nat} {N:List Nd} {bx:List (Nat × Nat × Nat)} {S:Nat→Prop} {w w0:World} (h:Mk w0 kb mb nb N bx S) (hB:Below w0.heap.size w0 w) (hN:N.length≤100000000) (bs:Nat) (u:Value) (l:List zR) (hbs:w.heap[bs]? = some (zh u 235)) (hle:w0.heap.size≤bs) (hs:Qr w0 0 u l) (hl:l.length≤20) (hkb:w.heap[kb]? = some (Qd mb (.map (some nb)) N.length)) :
  Calls Tryz.prog 210 #[z9 kb,.func (.func 217) #[] #[z9 bs]] w (Qg kb mb nb N bx S (.cls l) w0):=by
 have q:=z8 hkb
 have lk:=za hkb
 have hne:bs<w.heap.size:=zd hbs
 have hsz:=hB.size
 have HM:=z6 (Kf h hN (W:=(w.alloc (zh (.func (.func 217) #[] #[z9 bs]) 287)).alloc (zh (z9 mb) 113)) (hB.trans ((QY w _ _).mono hB.size)) 220 #[z9 (w.heap.size+1),z9 w.heap.size] (d:=.cls l) trivial (fun x w' hh hu=>⟨w.heap.size+1,w.heap.size,bs,u,rfl,hh _ _ _ (by omega) (by have:=zk (w.alloc (zh (.func (.func 217) #[] #[z9 bs]) 287)) (zh (z9 mb) 113);simpa using this),hh _ _ _ (by omega) (by rw[zm _ _ (by simp)];exact zk w _),hh _ _ _ hle (by rw[(QY w _ _).block _ hne];exact hbs),Z6 hs (fun g hg=>hu g (Zr hs hg)),hl⟩))
 have hmf:∀ (fn:Fn) (first cap:Array Value) (w:World),(Instr.makeFunc fn first cap).run Tryz.prog w = .ok (.func fn first cap) w:=fun _ _ _ _=>rfl
 clear h hB hs hbs hkb hle hsz
 go_enter Tryz.func210,Tryz.ntmps210
 go_wp2_with fail
 refine HM.out.mono ?_
 rintro _ w1 ⟨x,S1,rfl,h1,h2,h3⟩
 go_wp2_with fail
 go_ret
 exact⟨x,S1,rfl,h1,h2,h3⟩
theorem zer {kb mb nb:Nat} {N:List Nd} {bx:List (Nat × Nat × Nat)} {S:Nat→Prop} {w:World} (h:Mk w kb mb nb N bx S) (hN:N.length≤100000000) (u:Value) (l:List zR) (hs:Qr w 0 u l) (hl:l.length≤20) :
  Calls Tryz.prog 209 #[z9 kb,u] w (Qg kb mb nb N bx S (.cls l) w):=by
 have HM:=z6 (ziN h (zc w (zh u 235)) hN w.heap.size u l (zk w _) (Nat.le_refl _) hs hl (by rw[zm _ _ (zd h.blk)];exact h.blk))
 have hmf:∀ (fn:Fn) (first cap:Array Value) (w:World),(Instr.makeFunc fn first cap).run Tryz.prog w = .ok (.func fn first cap) w:=fun _ _ _ _=>rfl
 obtain⟨ua,uc,rfl⟩:=zl hs
 clear h hs
 go_enter Tryz.func209,Tryz.ntmps209
 go_wp2_with fail
 refine HM.out.mono ?_
 rintro _ w1 ⟨x,S1,rfl,h1,h2,h3⟩
 go_wp2_with fail
 go_ret
 exact⟨x,S1,rfl,h1,h2,h3⟩
theorem zc7 {kb mb nb:Nat} {N:List Nd} {bx:List (Nat × Nat × Nat)} {S:Nat→Prop} {w:World} (h:Mk w kb mb nb N bx S) (hN:N.length≤100000000) (j:Nat) (hj:j<N.length) :
  Calls Tryz.prog 201 #[z9 kb,clV bx j] w (Qg kb mb nb N bx S (.plus j) w):=by
 have hjb:j<bx.length:=by rw[h.len];exact hj
 have l:=za h.blk
 obtain⟨W,hW⟩:∃ W,W=(w.alloc (zh (clV bx j) 226)).alloc (zh .nilFunc 226):=⟨_,rfl⟩
 have hB:Below w.heap.size w W:=by rw[hW];exact QY _ _ _
 have hk:W.heap[kb]? = some (Qd mb (.map (some nb)) N.length):=by rw[hB.block _ (zd h.blk)];exact h.blk
 have w0:W.heap[w.heap.size]? = some (zh (clV bx j) 226):=by rw[hW,zm _ _ (by simp)];exact zk _ _
 have w1:W.heap[w.heap.size+1]? = some (zh .nilFunc 226):=by
  rw[hW]
  have:=zk (w.alloc (zh (clV bx j) 226)) (zh .nilFunc 226)
  simpa using this
 have HR:=z6 (zci W kb mb N.length (.map (some nb)) 213 #[z9 w.heap.size,z9 (w.heap.size+1)] hN hk)
 have hmf:∀ (fn:Fn) (first cap:Array Value) (w:World),(Instr.makeFunc fn first cap).run Tryz.prog w = .ok (.func fn first cap) w:=fun _ _ _ _=>rfl
 have hsf:∀ (a:Addr) (fn:Fn) (x c:Array Value) (W:World),(store a (.func fn x c)).run Tryz.prog W=stored Tryz.prog W a (.func fn x c) .plain:=fun a fn x c W=>run_store Tryz.prog W a _ _ rfl
 have HM:=z6 h
 have HB:=z6 hB
 have HK:=z6 hk
 have H0:=z6 w0
 have H1:=z6 w1
 have HW:=z6 hW
 have hcl:clV bx j=zT (bx.getD j (0,0,0)):=rfl
 have HCL:=z6 hcl
 rw[hcl]
 clear h hB hk w0 w1 hW hcl
 generalize hx:bx.getD j (0,0,0)=xx at *
 clear hx
 have hW:=HW.out
 rw[HCL.out] at hW
 go_enter Tryz.func201,Tryz.ntmps201
 go_wp2_with fail
 rw[← hW]
 clear hW
 refine HR.out.mono ?_
 rintro _ w2 ⟨x,rfl,h2,h3,h4,h5,h6,i1,i2,i3⟩
 have hU:=Up.of_kpM h6
 have y0:=hU.box HK.out H0.out
 have y1:=hU.box HK.out H1.out
 have z1:=z8 y1
 have f1:=zi y1
 have l1:=za y1
 have HY0:=z6 y0
 have HY1:=z6 y1
 have H2:=z6 h2
 have H3:=z6 h3
 have H4:=z6 h4
 have H5:=z6 h5
 have H6:=z6 h6
 have HI:=z6 (And.intro i1 (And.intro i2 i3))
 clear h2 h3 h4 h5 h6 hU y0 y1 i1 i2 i3
 simp only[zT]
 go_wp2_with fail
 go_ret
 have n1:x.1≠w.heap.size+1:=fun e=>by have:=H2.out;rw[e,HY1.out] at this;simp at this
 have n2:x.2.1≠w.heap.size+1:=fun e=>by have:=H3.out;rw[e,HY1.out] at this;simp at this
 have n3:x.2.2≠w.heap.size+1:=fun e=>by have:=H4.out;rw[e,HY1.out] at this;simp at this
 have nk:kb≠w.heap.size+1:=by omega
 have hK:KpM [kb] w.heap.size w (w2.setCell ⟨w.heap.size+1,0,none⟩ (zT x)):=((KpM.of_below HB.out).trans (H6.out.mono HB.out.size)).low ((Below.refl _ _).setCell (p:=⟨w.heap.size+1,0,none⟩) (Nat.le_succ _) _)
 obtain⟨w3,hw3⟩:∃ w3,w3=w2.setCell ⟨w.heap.size+1,0,none⟩ (zT x):=⟨_,rfl⟩
 have k5:w3.heap[kb]? = some (Qd mb (.map (some nb)) (N.length+1)):=by rw[hw3,Below.heap_setCell _ _ _ _ nk];exact H5.out
 have k2:w3.heap[x.1]? = some (zh (z9 mb) 113):=by rw[hw3,Below.heap_setCell _ _ _ _ n1];exact H2.out
 have k3:w3.heap[x.2.1]? = some (zh (.int .i64 N.length) 3):=by rw[hw3,Below.heap_setCell _ _ _ _ n2];exact H3.out
 have k4:w3.heap[x.2.2]? = some (zh (.func (.func 213) #[] #[z9 w.heap.size,z9 (w.heap.size+1)]) 226):=by rw[hw3,Below.heap_setCell _ _ _ _ n3];exact H4.out
 have k0:w3.heap[w.heap.size]? = some (zh (clV bx j) 226):=by rw[hw3,Below.heap_setCell _ _ _ _ (by simp)];exact HY0.out
 have k1:w3.heap[w.heap.size+1]? = some (zh (zT x) 226):=by rw[hw3,zo HY1.out];rfl
 rw[← hw3] at hK ⊢
 have hU:=Up.of_kpM hK
 have hsz:=hU.size
 have hBs:=HB.out.size
 have hml:=HM.out.mlt
 have hkl:=zd HM.out.blk
 obtain⟨i1,i2,i3⟩:=HI.out
 refine⟨x,fun b=>S b∨(w.heap.size≤b∧b<w3.heap.size),rfl,⟨by rw[List.length_append];exact k5,by omega,by simp[HM.out.len],?_,?_,?_⟩,hK,?_⟩
 ·rintro (h' | h')
  ·exact HM.out.nk h'
  ·omega
 ·rintro b (h' | h')
  ·have:=HM.out.lt b h';omega
  ·exact h'.2
 ·intro w4 hs hg
  have hc:=HM.out.clo w4 (Nat.le_trans hsz hs) (fun b hb=>(hg b (.inl hb)).trans (hU.old b (HM.out.lt b hb) (fun e=>HM.out.nk (e ▸ hb))))
  refine hc.push HM.out.len hj ((hg _ (.inr ⟨by omega,zd k2⟩)).trans k2) ((hg _ (.inr ⟨by omega,zd k3⟩)).trans k3) ((hg _ (.inr ⟨by omega,zd k4⟩)).trans k4) ⟨w.heap.size,w.heap.size+1,rfl,?_,?_⟩
  ·rw[Y5 hjb];exact (hg _ (.inr ⟨Nat.le_refl _,zd k0⟩)).trans k0
  ·rw[zeo HM.out.len];exact (hg _ (.inr ⟨Nat.le_succ _,zd k1⟩)).trans k1
 ·rintro b (h' | h')
  ·exact .inl h'
  ·exact .inr (.inl h'.1)
theorem zgE {kb mb nb:Nat} {N:List Nd} {bx:List (Nat × Nat × Nat)} {S:Nat→Prop} {w:World} (h:Mk w kb mb nb N bx S) (hN:N.length≤100000000) (names:List z7) (hnm:Zd w nb names) (b:z7) (hb:b.length≤2000) :
  Calls Tryz.prog 207 #[z9 kb,.string ⟨b.toArray⟩] w (Qg kb mb nb N bx S (.name (idx0 names b)) w):=by
 have q:=z8 h.blk
 have l:=za h.blk
 generalize hi:idx0 names b=i
 have HA:=z6 (Kf h hN ((QY w (zh (z9 mb) 113) (zh (.int .i64 i) 3)).drew) 215 #[z9 w.heap.size,z9 (w.heap.size+1)] (d:=.name i) trivial (fun x w' hh _=>⟨w.heap.size,w.heap.size+1,rfl,hh _ _ _ (Nat.le_refl _) (by show (World.alloc _ _).heap[w.heap.size]? = _;rw[zm _ _ (by simp)];exact zk w _),hh _ _ _ (by omega) (by have:=zk (w.alloc (zh (z9 mb) 113)) (zh (.int .i64 i) 3);show (World.alloc _ _).heap[w.heap.size+1]? = _;simpa using this)⟩))
 have HB:=z6 (Kf h hN ((QY w (zh (.int .i64 i) 3) (zh (z9 mb) 113)).drew) 215 #[z9 (w.heap.size+1),z9 w.heap.size] (d:=.name i) trivial (fun x w' hh _=>⟨w.heap.size+1,w.heap.size,rfl,hh _ _ _ (by omega) (by have:=zk (w.alloc (zh (.int .i64 i) 3)) (zh (z9 mb) 113);show (World.alloc _ _).heap[w.heap.size+1]? = _;simpa using this),hh _ _ _ (Nat.le_refl _) (by show (World.alloc _ _).heap[w.heap.size]? = _;rw[zm _ _ (by simp)];exact zk w _)⟩))
 have k1:=(hnm.below (Below.refl _ _).drew).look b hb
 have k3:=fun O=>(hnm.below (zc w O).drew).look b hb
 have k5:=fun O P=>(hnm.below (QY w O P).drew).look b hb
 rw[hi] at k1
 simp only[hi] at k3 k5
 have hmf:∀ (fn:Fn) (first cap:Array Value) (w:World),(Instr.makeFunc fn first cap).run Tryz.prog w = .ok (.func fn first cap) w:=fun _ _ _ _=>rfl
 clear h hnm hi
 go_enter Tryz.func207,Tryz.ntmps207
 go_wp2_with fail
 go_region
 all_goals go_wp2_with fail
 all_goals
  first | with_reducible refine HA.out.mono ?_ | with_reducible refine HB.out.mono ?_
  rintro _ w1 ⟨x,S1,rfl,h1,h2,h3⟩
  go_wp2_with fail
  go_ret
  exact⟨x,S1,rfl,h1,h2,h3⟩
end Go.Proofs.YtiganlkabilblaaGreatDoor
namespace Thk
def Goes (N N':List Nd):Prop:=∀ (n:Nat) (d:Nd),N[n]? = some d→N'[n]? = some d
theorem Goes.refl (N:List Nd):Goes N N:=fun _ _ h=>h
theorem Goes.trans {A B C:List Nd} (h1:Goes A B) (h2:Goes B C):Goes A C:=fun n d h=>h2 n d (h1 n d h)
theorem Goes.app (N M:List Nd):Goes N (N++M):=fun n d h=>by
 rw[List.getElem?_append_left (List.getElem?_eq_some_iff.mp h).1];exact h
mutual
theorem DnP.goes {N N':List Nd} (g:Goes N N') {names:List z7} {n:Nat}:∀ (p:zC),DnP N names n p→DnP N' names n p
 | .name b,h=>by simp only[DnP] at h ⊢;exact g _ _ h
 | .lit b,h=>by simp only[DnP] at h ⊢;exact g _ _ h
 | .cls l,h=>by simp only[DnP] at h ⊢;exact g _ _ h
 | .any,h=>by simp only[DnP] at h ⊢;exact g _ _ h
 | .group c,h=>by
  simp only[DnP] at h ⊢
  obtain⟨ks,h1,h2⟩:=h
  exact⟨ks,g _ _ h1,DnC.goes g c h2⟩
theorem DnT.goes {N N':List Nd} (g:Goes N N') {names:List z7} {n:Nat}:∀ (t:Term),DnT N names n t→DnT N' names n t
 | .mk a p b,h=>by
  simp only[DnT] at h ⊢
  obtain⟨i,h1,j,h2,h3⟩:=h
  refine⟨i,?_,j,?_,DnP.goes g p h3⟩
  ·split
   ·rename_i ha;rw[if_pos ha] at h1;exact h1
   ·rename_i ha;rw[if_neg ha] at h1;exact g _ _ h1
  ·split
   ·rename_i hb;rw[if_pos hb] at h2;exact h2
   ·rename_i hb
    rw[if_neg hb] at h2
    split
    ·rename_i hc;rw[if_pos hc] at h2;exact g _ _ h2
    ·rename_i hc
     rw[if_neg hc] at h2
     split
     ·rename_i hd;rw[if_pos hd] at h2;exact g _ _ h2
     ·rename_i hd
      rw[if_neg hd] at h2
      obtain⟨q,h4,h5⟩:=h2
      exact⟨q,g _ _ h4,g _ _ h5⟩
theorem DnS.goes {N N':List Nd} (g:Goes N N') {names:List z7} {ks:List Nat}:∀ (s:List Term),DnS N names ks s→DnS N' names ks s
 | [],h=>by simp only[DnS] at h ⊢;exact h
 | t::s,h=>by
  simp only[DnS] at h ⊢
  obtain⟨k,ks',h1,h2,h3⟩:=h
  exact⟨k,ks',h1,DnT.goes g t h2,DnS.goes g s h3⟩
theorem DnC.goes {N N':List Nd} (g:Goes N N') {names:List z7} {qs:List Nat}:∀ (c:List (List Term)),DnC N names qs c→DnC N' names qs c
 | [],h=>by simp only[DnC] at h ⊢;exact h
 | s::c,h=>by
  simp only[DnC] at h ⊢
  obtain⟨q,qs',ks,h1,h2,h3,h4⟩:=h
  exact⟨q,qs',ks,h1,g _ _ h2,DnS.goes g s h3,DnC.goes g c h4⟩
end
theorem DnS.snoc {N:List Nd} {names:List z7}:∀ {s:List Term} {ks:List Nat} {t:Term} {k:Nat},DnS N names ks s→DnT N names k t→DnS N names (ks++[k]) (s++[t])
 | [],ks,t,k,h,ht=>by
  simp only[DnS] at h
  subst h
  simp only[List.nil_append,DnS]
  exact⟨k,[],rfl,ht,rfl⟩
 | u::s,ks,t,k,h,ht=>by
  simp only[DnS] at h
  obtain⟨a,ks',rfl,h2,h3⟩:=h
  simp only[List.cons_append,DnS]
  exact⟨a,ks'++[k],rfl,h2,DnS.snoc h3 ht⟩
theorem DnC.snoc {N:List Nd} {names:List z7}:∀ {c:List (List Term)} {qs:List Nat} {s:List Term} {q:Nat} {ks:List Nat},DnC N names qs c→N[q]? = some (.seq ks)→DnS N names ks s→DnC N names (qs++[q]) (c++[s])
 | [],qs,s,q,ks,h,hq,hs=>by
  simp only[DnC] at h
  subst h
  simp only[List.nil_append,DnC]
  exact⟨q,[],ks,rfl,hq,hs,rfl⟩
 | u::c,qs,s,q,ks,h,hq,hs=>by
  simp only[DnC] at h
  obtain⟨a,qs',ks',rfl,h2,h3,h4⟩:=h
  simp only[List.cons_append,DnC]
  exact⟨a,qs'++[q],ks',rfl,h2,h3,DnC.snoc h4 hq hs⟩
end Thk
namespace Go.Proofs.YtiganlkabilblaaGreatDoor
open Go.RowKit
attribute [local go_sem ↓] Go.wp_at_zero Go.wp_at_succ
abbrev evS (ps:List (Thk.RE × Value × Value)) (rs:List (Thk.z7 × Nat)) (s:ByteArray):Nat→REv:=evR (zK ps) (zj rs) (Zp rs) s.data.toList
abbrev SndS (ps:List (Thk.RE × Value × Value)) (rs:List (Thk.z7 × Nat)) (s:ByteArray) (M:Tab):Prop:=Snd (zK ps) (zj rs) (Zp rs) s.data.toList M
structure Stt (w0:World) (tb eb ec:Nat) (vx vr:Value) (ps:List (Thk.RE × Value × Value)) (rs:List (Thk.z7 × Nat)) (s:ByteArray) (rbs:List Nat) (w:World):Prop where
 ex:∃ M,Y1 w0 w tb eb ec vx vr s rbs M∧SndS ps rs s M
theorem Stt.below {w0:World} {tb eb ec:Nat} {vx vr:Value} {ps:List (Thk.RE × Value × Value)} {rs:List (Thk.z7 × Nat)} {s:ByteArray} {rbs:List Nat} {w w':World} (h:Stt w0 tb eb ec vx vr ps rs s rbs w) (hb:Below w.heap.size w w'):Stt w0 tb eb ec vx vr ps rs s rbs w':=by
 obtain⟨M,h1,h2⟩:=h
 exact⟨M,h1.kept hb,h2⟩
theorem Stt.cells {w0:World} {tb eb ec:Nat} {vx vr:Value} {ps:List (Thk.RE × Value × Value)} {rs:List (Thk.z7 × Nat)} {s:ByteArray} {rbs:List Nat} {w:World} (h:Stt w0 tb eb ec vx vr ps rs s rbs w):tb<w.heap.size∧w0.heap.size≤w.heap.size∧(∀ b,b<w0.heap.size→w.heap[b]? = w0.heap[b]?)∧∀ o,w.cell? ⟨tb,o,none⟩=(#[vx,vr,.string s,.slice (some ⟨eb,0,none⟩) rbs.length ec]:Array Value)[o]? := by
 obtain⟨M,hT,_⟩:=h
 exact⟨zd hT.blk,hT.size,hT.old,z8 hT.blk⟩
theorem KpM.own {rbs:List Nat} {w w1:World} {O:Obj} (hf:∀ b ∈ rbs,b<w.heap.size) (h:KpM rbs (w.alloc O).heap.size (w.alloc O) w1):w1.heap[w.heap.size]? = some O:=by
 rw[h.block _ (by simp) (fun hb=>by have:=hf _ hb;omega)]
 exact zk _ _
theorem KpM.alloc {rbs:List Nat} {w w1:World} {O:Obj} (h:KpM rbs (w.alloc O).heap.size (w.alloc O) w1):KpM rbs w.heap.size w w1:=KpM.go (KpM.of_below (zc w O)) h
end Go.Proofs.YtiganlkabilblaaGreatDoor
namespace Go.Proofs.YtiganlkabilblaaGreatDoor
open Go.RowKit Thk
theorem zcN {A:Nat→Prop} {kb mb nb n:Nat} {w w':World} (h:w.heap[kb]? = some (Qd mb (.map (some nb)) n)) (u:Up kb w w') (hA:∀ g,A g→g≠kb):Sm A w w':=by
 refine⟨fun v l hs=>Z6 hs (fun g hg=>u.old g (hs.lt g hg).2 ?_),fun g hg hag=>u.old g hg (hA g hag)⟩
 rintro rfl
 obtain⟨cur,hc⟩:=Zr hs hg
 rw[h] at hc
 simp at hc
theorem Zd.up {kb mb nb n:Nat} {names:List z7} {w w':World} (hm:Zd w nb names) (h:w.heap[kb]? = some (Qd mb (.map (some nb)) n)) (u:Up kb w w'):Zd w' nb names:=by
 refine hm.same (u.old nb hm.lt ?_)
 rintro rfl
 obtain⟨D,⟨es,clock,h1,_⟩,_⟩:=hm
 rw[h1] at h
 simp at h
abbrev Mak (kb mb nb:Nat) (N:List Nd) (bx:List (Nat × Nat × Nat)) (S:Nat→Prop) (wt:Nat) (P:List Nd→Nat→Prop) (w:World):Ending→World→Prop:=fun e w'=>∃ N' y n x S',e = .returned (zT x)∧x=(bx++y).getD n (0,0,0)∧n<N'.length∧Mk w' kb mb nb N' (bx++y) S'∧Goes N N'∧N'.length≤N.length+wt∧P N' n∧KpM [kb] w.heap.size w w'∧GrS w S S'
theorem Qg.mak {kb mb nb:Nat} {N:List Nd} {bx:List (Nat × Nat × Nat)} {S:Nat→Prop} {wt:Nat} {P:List Nd→Nat→Prop} {d:Nd} {w0 w w':World} {e:Ending} (hb:Below w0.heap.size w0 w) (hl:bx.length=N.length) (hP:P (N++[d]) N.length) (hw : 1≤wt) (h:Qg kb mb nb N bx S d w e w'):Mak kb mb nb N bx S wt P w0 e w':=by
 obtain⟨x,S',rfl,h1,h2,h3⟩:=h
 refine⟨N++[d],[x],N.length,x,S',rfl,?_,by simp,h1,Goes.app _ _,by simp;omega,hP,(KpM.of_below hb).trans (h2.mono hb.size),(GrS.refl _ _).below h3 hb⟩
 rw[List.getD_eq_getElem?_getD,List.getElem?_append_right (by rw[hl];exact Nat.le_refl _),hl,Nat.sub_self];rfl
theorem KO (N:List Nd) (d:Nd):(N++[d])[N.length]? = some d:=by simp
theorem Mak.then1 {kb mb nb:Nat} {N N1:List Nd} {bx y:List (Nat × Nat × Nat)} {S S1:Nat→Prop} {wt wt1:Nat} {P:List Nd→Nat→Prop} {d:Nd} {w w1 w2:World} {e:Ending} (hk:w.heap[kb]? = some (Qd mb (.map (some nb)) N.length)) (hk1:w1.heap[kb]? = some (Qd mb (.map (some nb)) N1.length)) (hg:Goes N N1) (hl:(bx++y).length=N1.length) (hn:N1.length≤N.length+wt1) (hK:KpM [kb] w.heap.size w w1) (hS:GrS w S S1) (hP:P (N1++[d]) N1.length) (hw:wt1+1≤wt) (h:Qg kb mb nb N1 (bx++y) S1 d w1 e w2):Mak kb mb nb N bx S wt P w e w2:=by
 obtain⟨x,S',rfl,h1,h2,h3⟩:=h
 refine⟨N1++[d],y++[x],N1.length,x,S',rfl,?_,by simp,by rw[← List.append_assoc];exact h1,hg.trans (Goes.app _ _),by simp;omega,hP,hK.go h2,hS.trans h3 hk ⟨_,hk1⟩ (Up.of_kpM hK)⟩
 rw[← List.append_assoc,List.getD_eq_getElem?_getD,List.getElem?_append_right (by rw[hl];exact Nat.le_refl _),hl,Nat.sub_self];rfl
theorem zbq {N N':List Nd} (g:Goes N N') {names:List z7} {i:Nat} {p:zC} {b:UInt8} (h:DnI N names i p b):DnI N' names i p b:=by
 have h1:DnT N names i (.mk 0 p b):=by simp only[DnT];exact⟨i,by simp,h⟩
 have h2:=DnT.goes g _ h1
 simp only[DnT] at h2
 obtain⟨i',h3,h4⟩:=h2
 have h5:i=i':=by simpa using h3
 subst h5
 exact h4
def zaL (k:Nat):Prop:=∀ (w:World) (kb mb nb:Nat) (N:List Nd) (bx:List (Nat × Nat × Nat)) (S:Nat→Prop) (names:List z7) (A:Nat→Prop) (p:zC) (v:Value),Mk w kb mb nb N bx S→Zd w nb names→zp w A p v→(∀ g,A g→g≠kb)→Y6 p≤k→okP p→N.length+(2 * wtP p+1)≤100000000→wtP p≤500000 →
 Calls Tryz.prog 199 #[z9 kb,v] w (Mak kb mb nb N bx S (2 * wtP p+1) (fun N' n=>DnP N' names n p) w)
def zaK (k:Nat):Prop:=∀ (w:World) (kb mb nb:Nat) (N:List Nd) (bx:List (Nat × Nat × Nat)) (S:Nat→Prop) (names:List z7) (A:Nat→Prop) (a:UInt8) (p:zC) (b:UInt8) (v:Value),Mk w kb mb nb N bx S→Zd w nb names→zp w A p v→(∀ g,A g→g≠kb)→Y6 p≤k→okT (.mk a p b)→N.length+(2 * wtP p+3)≤100000000→wtP p≤500000 →
 Calls Tryz.prog 190 #[z9 kb,QN (.mk a p b) v] w (Mak kb mb nb N bx S (2 * wtP p+3) (fun N' n=>DnI N' names n p b) w)
def zaN (k:Nat):Prop:=∀ (w:World) (kb mb nb:Nat) (N:List Nd) (bx:List (Nat × Nat × Nat)) (S:Nat→Prop) (names:List z7) (A:Nat→Prop) (t:Term) (v:Value),Mk w kb mb nb N bx S→Zd w nb names→Zk w A t v→(∀ g,A g→g≠kb)→Jx t≤k→okT t→N.length+2 * wtT t≤100000000→wtT t≤500000 →
 Calls Tryz.prog 174 #[z9 kb,QN t v] w (Mak kb mb nb N bx S (2 * wtT t) (fun N' n=>DnT N' names n t) w)
def zaM (k:Nat):Prop:=∀ (w:World) (kb mb nb:Nat) (N:List Nd) (bx:List (Nat × Nat × Nat)) (S:Nat→Prop) (names:List z7) (A:Nat→Prop) (s:List Term) (u:Value),Mk w kb mb nb N bx S→Zd w nb names→QX w A s u→(∀ g,A g→g≠kb)→YO s≤k→okS s→N.length+2 * wtS s≤100000000→wtS s≤500000 →
 Calls Tryz.prog 149 #[z9 kb,u] w (Mak kb mb nb N bx S (2 * wtS s) (fun N' n=>∃ ks,N'[n]? = some (.seq ks)∧DnS N' names ks s) w)
def qv (k:Nat):Prop:=∀ (w:World) (kb mb nb:Nat) (N:List Nd) (bx:List (Nat × Nat × Nat)) (S:Nat→Prop) (names:List z7) (A:Nat→Prop) (c:List (List Term)) (u:Value),Mk w kb mb nb N bx S→Zd w nb names→Zt w A c u→(∀ g,A g→g≠kb)→Qt c≤k→okC c→N.length+2 * wtC c≤100000000→wtC c≤500000 →
 Calls Tryz.prog 119 #[z9 kb,u] w (Mak kb mb nb N bx S (2 * wtC c) (fun N' n=>DnP N' names n (.group c)) w)
def Qx:List Term→Nat
 | []=>0
 | t::s=>1+wtT t+Qx s
def Qa:List (List Term)→Nat
 | []=>0
 | s::c=>3+wtS s+Qa c
theorem zd2:∀ s:List Term,wtS s=Qx s+2
 | []=>rfl
 | t::s=>by have:=zd2 s;simp only[wtS,Qx];omega
theorem zcZ:∀ c:List (List Term),c≠[]→wtC c=Qa c
 | [],h=>absurd rfl h
 | [s],_=>by simp only[wtC,Qa];omega
 | s::s2::c,_=>by have:=zcZ (s2::c) (by simp);simp only[wtC,Qa] at *;omega
theorem zd3:∀ (s:List Term) (t:Term),Qx (s++[t])=Qx s+(1+wtT t)
 | [],t=>by simp[Qx]
 | u::s,t=>by have:=zd3 s t;simp only[List.cons_append,Qx];omega
theorem zd0:∀ (c:List (List Term)) (s:List Term),Qa (c++[s])=Qa c+(3+wtS s)
 | [],t=>by simp[Qa]
 | u::c,s=>by have:=zd0 c s;simp only[List.cons_append,Qa];omega
theorem zj1 (s:List Term) (j:Nat) (hj:j<s.length):Qx (s.take (j+1))=Qx (s.take j)+(1+wtT s[j]):=by
 rw[List.take_succ_eq_append_getElem hj,zd3]
theorem zj0 (c:List (List Term)) (j:Nat) (hj:j<c.length):Qa (c.take (j+1))=Qa (c.take j)+(3+wtS c[j]):=by
 rw[List.take_succ_eq_append_getElem hj,zd0]
theorem zd1:∀ (s t:List Term),Qx (s++t)=Qx s+Qx t
 | [],t=>by simp[Qx]
 | u::s,t=>by have:=zd1 s t;simp only[List.cons_append,Qx];omega
theorem zcY:∀ (s t:List (List Term)),Qa (s++t)=Qa s+Qa t
 | [],t=>by simp[Qa]
 | u::s,t=>by have:=zcY s t;simp only[List.cons_append,Qa];omega
theorem zaw (s:List Term) (j:Nat):Qx (s.take j)≤Qx s:=by
 conv=>rhs;rw[← List.take_append_drop j s]
 rw[zd1];omega
theorem zav (s:List (List Term)) (j:Nat):Qa (s.take j)≤Qa s:=by
 conv=>rhs;rw[← List.take_append_drop j s]
 rw[zcY];omega
theorem zd4:∀ (s:List Term),s.length≤Qx s
 | []=>by simp
 | t::s=>by have:=zd4 s;simp only[Qx,List.length_cons];omega
theorem q9:∀ (c:List (List Term)),c.length≤Qa c
 | []=>by simp
 | t::s=>by have:=q9 s;simp only[Qa,List.length_cons];omega
theorem zbX:∀ {s:List Term},okS s→∀ (j:Nat) (hj:j<s.length),okT s[j]
 | t::s,h,0,_=>by simp only[okS] at h;exact h.1
 | t::s,h,j+1,hj=>by simp only[okS] at h;exact zbX h.2 j (by simpa using hj)
theorem zbW:∀ {c:List (List Term)},okC c→∀ (j:Nat) (hj:j<c.length),okS c[j]
 | t::s,h,0,_=>by simp only[okC] at h;exact h.1
 | t::s,h,j+1,hj=>by simp only[okC] at h;exact zbW h.2 j (by simpa using hj)
end Go.Proofs.YtiganlkabilblaaGreatDoor
