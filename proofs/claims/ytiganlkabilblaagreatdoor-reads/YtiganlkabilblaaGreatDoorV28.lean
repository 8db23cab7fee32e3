import Derived.Test.YtiganlkabilblaaGreatDoorV27
set_option linter.all false
set_option maxHeartbeats 64000000
set_option maxRecDepth 100000
namespace Go.Proofs.YtiganlkabilblaaGreatDoor
open Go.RowKit Thk
attribute [local go_sem ↓] Go.wp_at_zero Go.wp_at_succ
theorem zgq (n:Nat) (hn:n≤20) (w:World):∃ cur:Array Value,cur.size=n∧(Instr.makeSlice 175 (.int .i64 n) (.int .i64 n)).run Tryz.prog w = .ok (.slice (some ⟨w.heap.size,0,none⟩) n n) (w.alloc (.cells cur 226)):=by
 obtain⟨i0,hi,hz0,hz1,hz2⟩:=info_parts Tryz.infoExprF
 refine⟨madeCells (Value.nilFunc).cells (((n:Nat):Int).toNat * i0.size),?_,?_⟩
 ·rw[size_madeCells,hz1];simp
 ·have h:=run_make (P:=Tryz.prog) w 175 226 i0 _ Tryz.underlying175 hi hz0 .i64 .i64 (n:Int) (n:Int) (by omega) (by omega) (by rw[hz2];omega) (by omega)
  simpa using h
theorem qU {w:World} {a:Addr} {v u:Value} {b o:Nat} (h:w.cell? a=some v) (hne:a.block≠b):(w.setCell ⟨b,o,none⟩ u).cell? a=some v:=by
 rw[World.cell?_of_block (a:=a) (Below.heap_setCell w ⟨b,o,none⟩ u a.block hne)];exact h
def zaJ (g:List ze) (w:World) (e:Ending) (w':World):Prop:=∃ mb N bx rs vr S,e = .returned (z9 mb)∧Jv w' mb N bx rs vr S∧w'.heap[mb]? = some (Zz vr ⟨#[]⟩ (.map none) .nilIface)∧DnR N rs g∧Below w.heap.size w w'∧w.heap.size≤mb∧∀ b,S b→w.heap.size≤b∨QA w b
theorem zgA {w:World} {nb:Nat} {g:List ze} {names:List z7} {cur:Array Value} (hc:cur.size=g.length):MkL w (w.heap.size+1+1) (w.heap.size+1) nb w.heap.size g names 0 (((w.alloc (.cells cur 226 (0,0))).alloc (Zz (.slice (some ⟨w.heap.size,0,none⟩) g.length g.length) ⟨#[]⟩ (.map none) .nilIface)).alloc (Qd (w.heap.size+1) (.map (some nb)) 0)) [] [] (fun _=>False) []:=by
 refine⟨⟨Vl w _ _ _,by simp,rfl,fun h=>h,fun _ h=>h.elim,fun _ _ _ n d hn=>by simp at hn⟩,by simp,rfl,by simp,by simp,Vk w _ _ _,⟨cur,Vj w _ _ _,hc,by simp⟩,fun h=>h,fun h=>h,Qs w _ _ _,fun _ h=>h.elim⟩
theorem zgp (w:World) (A:Nat→Prop) (g:List ze) (ga:Addr) (gc nb:Nat) (h:Zj w A g (.slice (some ga) g.length gc)) (hm:Zd w nb (zg g)) (hgok:GOk g) (hok:∀ r ∈ g,okC r.choice) (hl:g.length≤20) :
  Calls Tryz.prog 82 #[.slice (some ga) g.length gc,.map (some nb)] w (zaJ g w):=by
 obtain⟨cur,hcs,hmk⟩:=zgq g.length hl w
 have HG:=z6 h
 have HM:=z6 hm
 have HGOK:=z6 hgok
 have HOK:=z6 hok
 have HSR:=z6 (zcW g (fun r hr=>(hgok r hr).1))
 have H0:=z6 (zgA (w:=w) (nb:=nb) (g:=g) (names:=zg g) hcs)
 clear h hm hgok hok hcs
 go_enter Tryz.func82,Tryz.ntmps82
 go_wp2_with fail
 go_loopg [17] g.length (fun m vi wr=>∃ (i:Nat) (N:List Nd) (bx:List (Nat × Nat × Nat)) (rs:List Nat) (S:Nat→Prop),m=g.length - i∧vi = .int .i64 i∧i≤g.length∧Hid (MkL w (w.heap.size+1+1) (w.heap.size+1) nb w.heap.size g (zg g) i wr N bx S rs))
 case atStart=>exact⟨0,[],[],[],fun _=>False,by omega,rfl,by omega,H0⟩
 case round=>
  obtain⟨i,N,bx,rs,S,rfl,rfl,hi,HI⟩:=hrel
  have hsr:=HI.out.bel.size
  by_cases hlt:i<g.length
  ·have hlt':(i:Int)<g.length:=by omega
   obtain⟨gb,ca,cc,rfl,hgbl,_,c0,c1,hch,hnl⟩:=HG.out.at i hlt
   have hgi:=HGOK.out g[i] (List.getElem_mem hlt)
   have hoi:=HOK.out g[i] (List.getElem_mem hlt)
   have c0':wr.cell? ⟨gb,i * 2,none⟩=some (.string ⟨g[i].name.toArray⟩):=by rw[HI.out.bel.cell (p:=⟨gb,_,none⟩) hgbl];exact c0
   have c1':wr.cell? ⟨gb,i * 2+1,none⟩=some (.slice ca g[i].choice.length cc):=by rw[HI.out.bel.cell (p:=⟨gb,_,none⟩) hgbl];exact c1
   have k0:wr.cell? ⟨w.heap.size+1+1,0,none⟩=some (z9 (w.heap.size+1)):=z8 HI.out.mkr.blk 0
   have m0:wr.cell? ⟨w.heap.size+1,0,none⟩=some (.slice (some ⟨w.heap.size,0,none⟩) g.length g.length):=z8 HI.out.mat 0
   have hkl:=za HI.out.mkr.blk
   have HCH:=z6 hch
   have HPC:Hid (∀ X,Below wr.heap.size wr X→Calls Tryz.prog 119 #[z9 (w.heap.size+1+1),.slice ca g[i].choice.length cc] X (Mak (w.heap.size+1+1) (w.heap.size+1) nb N bx S (2 * wtC g[i].choice) (fun N' n=>DnP N' (zg g) n (.group g[i].choice)) X)):=z6 (fun X hX=>by
    have hb:Below w.heap.size w X:=HI.out.bel.trans (hX.mono hsr)
    have hcn:=HI.out.cnt
    have hst:=zcX g i hlt
    have hsm:Jc (g.take (i+1))≤Jc g:=by
     conv=>rhs;rw[← List.take_append_drop (i+1) g]
     rw[zau];omega
    have hsr:=HSR.out
    exact zek X _ _ nb N bx S (zg g) (fun b=>b<w.heap.size) g[i].choice _ (HI.out.mkr.below hX) (HM.out.below hb) ((HCH.out.mono (fun b hl _=>hl)).kept (ZF hb)) (fun b hb=>by omega) hoi (by omega) hgi.1)
   have HGO:Hid (∀ X w1 N2 y n x S2,Below wr.heap.size wr X→x=(bx++y).getD n (0,0,0)→n<N2.length→Mk w1 (w.heap.size+1+1) (w.heap.size+1) nb N2 (bx++y) S2→Goes N N2→N2.length≤N.length+2 * wtC g[i].choice→DnP N2 (zg g) n (.group g[i].choice)→KpM [w.heap.size+1+1] X.heap.size X w1→GrS X S S2→Hid (MkL w (w.heap.size+1+1) (w.heap.size+1) nb w.heap.size g (zg g) (i+1) (w1.setCell ⟨w.heap.size,i,none⟩ (zT x)) N2 (bx++y) S2 (rs++[n]))):=z6 (fun X w1 N2 y n x S2 hX hx hn h1 hg hl hd hK hS=>z6 (HI.out.next hlt (by omega) (by omega) (by omega) (by omega) (by omega) (by omega) hX hx hn h1 hg hl hd hK hS))
   have HKP:Hid (∀ X w1,Below wr.heap.size wr X→KpM [w.heap.size+1+1] X.heap.size X w1→(∃ cur:Array Value,w1.heap[w.heap.size]? = some (.cells cur 226 (0,0))∧cur.size=g.length)∧w1.heap[w.heap.size+1]? = some (Zz (.slice (some ⟨w.heap.size,0,none⟩) g.length g.length) ⟨#[]⟩ (.map none) .nilIface)):=z6 (fun X w1 hX hK=>by
    have hXs:=hX.size
    obtain⟨cu,h1,h2,_⟩:=HI.out.row
    have e1:=zd h1
    have e2:=zd HI.out.mat
    refine⟨⟨cu,?_,h2⟩,?_⟩
    ·rw[hK.block _ (by omega) (by simp;omega),hX.block _ e1];exact h1
    ·rw[hK.block _ (by omega) (by simp),hX.block _ e2];exact HI.out.mat)
   generalize g[i].name=nm at *
   generalize g[i].choice=ch at *
   generalize hcl:ch.length=cl at *
   clear hch hgi hoi hnl c0 c1 hcl
   go_wp2_with fail
   have hn1:w.heap.size+1+1≠w.heap.size:=by omega
   have hn2:w.heap.size+1≠w.heap.size:=by omega
   have hn3:wr.heap.size≠w.heap.size:=by omega
   have hn4:w.heap.size≠wr.heap.size:=by omega
   have hig:i<g.length:=hlt
   have hsf:∀ (a:Addr) (fn:Fn) (x c:Array Value) (W:World),(store a (.func fn x c)).run Tryz.prog W=stored Tryz.prog W a (.func fn x c) .plain:=fun a fn x c W=>run_store Tryz.prog W a _ _ rfl
   have HW:Hid (∀ w1:World,KpM [w.heap.size+1+1] ((wr.alloc (.cells #[.string ⟨nm.toArray⟩,.slice ca cl cc] 142)).drew).heap.size ((wr.alloc (.cells #[.string ⟨nm.toArray⟩,.slice ca cl cc] 142)).drew) w1→w1.heap[wr.heap.size]? = some (.cells #[.string ⟨nm.toArray⟩,.slice ca cl cc] 142)):=z6 (fun w1 hK=>by
    rw[hK.block wr.heap.size (by show _<(wr.alloc _).heap.size;simp) (by simp;omega)]
    exact zk _ _)
   go_region_held_law (fun w'=>w'.cell? ⟨w.heap.size+1+1,0,none⟩=some (z9 (w.heap.size+1))∧w'.cell? ⟨w.heap.size+1,0,none⟩=some (.slice (some ⟨w.heap.size,0,none⟩) g.length g.length)∧w'.cell? ⟨wr.heap.size,1,none⟩=some (.slice ca cl cc)) (first | exact⟨qU q0 hn1,qU q1 hn2,qU q2 hn3⟩ | go_keep)
    (first
     | (go_at_call 119; refine (HPC.out _ ((zc wr _).drew)).mono ?_; rintro _ w1 ⟨N2, y2, n, x, S2, rfl, hx, hn, h1, hg, hl2, hd, hK, hS⟩; obtain ⟨⟨cu, hcu, hcuz⟩, hma⟩ := HKP.out _ w1 ((zc wr _).drew) hK; have q0 : w1.cell? ⟨w.heap.size + 1 + 1, 0, none⟩ = some (z9 (w.heap.size + 1)) := z8 h1.blk 0; have q1 : w1.cell? ⟨w.heap.size + 1, 0, none⟩ = some (.slice (some ⟨w.heap.size, 0, none⟩) g.length g.length) := z8 hma 0; have q2 : w1.cell? ⟨wr.heap.size, 1, none⟩ = some (.slice ca cl cc) := z8 (HW.out w1 hK) 1; have f1 := zi hcu i; obtain ⟨ov, q3⟩ : ∃ v, w1.cell? ⟨w.heap.size, i, none⟩ = some v := ⟨cu[i]'(by omega), (by rw [z8 hcu i]; exact Array.getElem?_eq_getElem _)⟩; have hl3 := za hcu; have hl4 := za h1.blk; have hl5 := za hma; have HF := HGO.out _ w1 N2 y2 n x S2 ((zc wr _).drew) hx hn h1 hg hl2 hd hK hS; clear hx h1 hg hl2 hd hK hS hn hcu hma hcuz))
   all_goals go_wp2_with fail
   all_goals
    go_roundg (g.length - (i+1))
    case measure=>omega
    case rel=>exact⟨i+1,_,_,_,_,rfl,by go_num,by omega,HF⟩
  ·have hlt':¬ (i:Int)<g.length:=by omega
   have hie:i=g.length:=by omega
   subst hie
   have k0:wr.cell? ⟨w.heap.size+1+1,0,none⟩=some (z9 (w.heap.size+1)):=z8 HI.out.mkr.blk 0
   have hkl:=za HI.out.mkr.blk
   have HZ:Hid (zaJ g w (.returned (z9 (w.heap.size+1))) wr):=z6 ⟨w.heap.size+1,N,bx,rs,_,_,rfl,HI.out.mat' (by omega),HI.out.mat,⟨HI.out.len,fun i h1 h2=>HI.out.dn i h2 h1⟩,HI.out.bel,by omega,fun b hb=>by
    rcases hb with hb | rfl
    ·exact HI.out.gr b hb
    ·exact .inl (Nat.le_refl _)⟩
   go_wp2_with fail
   go_ret
   exact HZ.out
end Go.Proofs.YtiganlkabilblaaGreatDoor
