import Derived.Test.YtiganlkabilblaaDoorV01
import Derived.Deep.RegionWith
set_option linter.all false
set_option maxHeartbeats 64000000
set_option maxRecDepth 100000
namespace Go.Proofs.YtiganlkabilblaaDoor
open Go.RowKit
structure Kp (rb B:Nat) (w w':World):Prop where
 os:w'.os=w.os
 tape:w'.tape=w.tape
 output:w'.output=w.output
 size:w.heap.size≤w'.heap.size
 block:∀ k,k<B→k≠rb→w'.heap[k]? = w.heap[k]?
theorem Kp.refl (rb B:Nat) (w:World):Kp rb B w w:=⟨rfl,rfl,rfl,Nat.le_refl _,fun _ _ _=>rfl⟩
theorem Kp.trans {rb B:Nat} {a b c:World} (h:Kp rb B a b) (k:Kp rb B b c):Kp rb B a c:=
 ⟨k.os.trans h.os,k.tape.trans h.tape,k.output.trans h.output,Nat.le_trans h.size k.size,fun i hi hr=>(k.block i hi hr).trans (h.block i hi hr)⟩
theorem Kp.mono {rb B B':Nat} {w w':World} (h:Kp rb B w w') (hB:B'≤B):Kp rb B' w w':=⟨h.os,h.tape,h.output,h.size,fun k hk hr=>h.block k (Nat.lt_of_lt_of_le hk hB) hr⟩
theorem Kp.of {rb B:Nat} {w w':World} (h:Below B w w'):Kp rb B w w':=⟨h.os,h.tape,h.output,h.size,fun k hk _=>h.block k hk⟩
theorem Kp.drewN {rb B:Nat} {a w:World} (h:Kp rb B a w) (q:Nat):Kp rb B a (w.drewN q):=⟨h.os,h.tape,h.output,h.size,h.block⟩
theorem Kp.drew {rb B:Nat} {a w:World} (h:Kp rb B a w):Kp rb B a w.drew:=⟨h.os,h.tape,h.output,h.size,h.block⟩
theorem Kp.alloc {rb B:Nat} {a w:World} (h:Kp rb B a w) (hB:B≤w.heap.size) (o:Obj):Kp rb B a (w.alloc o):=h.trans (.of ((Below.refl _ _).alloc hB o))
theorem Kp.setRb {rb B:Nat} {a w:World} (h:Kp rb B a w) (o:Nat) (u:Value):Kp rb B a (w.setCell ⟨rb,o,none⟩ u):=
 h.trans ⟨rfl,rfl,rfl,by simp[World.setCell],fun k _ hr=>Below.heap_setCell _ _ _ _ hr⟩
theorem Kp.setCell {rb B:Nat} {a w:World} (h:Kp rb B a w) {p:Addr} (hp:B≤p.block) (u:Value):Kp rb B a (w.setCell p u):=h.trans (.of ((Below.refl _ _).setCell hp u))
theorem Kp.grown {rb B:Nat} {a w w':World} {row:Option Nat} (h:Kp rb B a w) (hg:w.grownBy w' row) (hB:B≤w.heap.size) (hr:∀ k,row=some k→B≤k):Kp rb B a w':=
 h.trans (.of ((Below.refl _ _).grown hg hB hr))
theorem JT {w w':World} {rb base:Nat} {e:TypeId} {size:Nat} {v:Value} {n:Nat} {xs:List Value} (h:w.ownsRow base e size v n xs) {cs:Array Value} {fr:Nat × Nat} {t:TypeId} (hr:w.heap[rb]? = some (.cells cs t fr)) (he:e≠t)
  (hb:Kp rb w.heap.size w w'):w'.ownsRow base e size v n xs:=by
 obtain⟨h1,h2⟩:=h
 refine⟨h1,?_⟩
 rcases h2 with h2 | ⟨g,cap,cur,hv,hg,hh,r⟩
 ·exact Or.inl h2
 ·refine Or.inr ⟨g,cap,cur,hv,hg,?_,r⟩
  rw[hb.block g ?_ ?_];exact hh
  ·rcases Nat.lt_or_ge g w.heap.size with h | h
   ·exact h
   ·rw[Array.getElem?_eq_none h] at hh;cases hh
  ·intro e;subst e;rw[hr] at hh;simp at hh;exact he hh.2.1.symm
theorem Rd.lt {w:World} {rb tb tc:Nat} {ps:List (Thk.Tok × Value)} {n d:Nat} (h:Rd w rb tb tc ps n d):rb<w.heap.size:=by
 rcases Nat.lt_or_ge rb w.heap.size with h' | h'
 ·exact h'
 ·have:=h.1;rw[Array.getElem?_eq_none h'] at this;cases this
theorem Rd.kp {w w':World} {rb tb tc:Nat} {ps:List (Thk.Tok × Value)} {n d n' d':Nat} (h:Rd w rb tb tc ps n d) (hk:Kp rb w.heap.size w w')
  (hb:w'.heap[rb]? = some (.cells #[.slice (some ⟨tb,0,none⟩) ps.length tc,.int .i64 n',.int .i64 d'] 61 (0,0))):Rd w' rb tb tc ps n' d':=
 ⟨hb,⟨JT h.2.1.1 h.1 (by decide) hk,fun p hp=>JT (h.2.1.2 p hp) h.1 (by decide) hk⟩,h.2.2⟩
theorem Rd.below {w w':World} {rb tb tc:Nat} {ps:List (Thk.Tok × Value)} {n d:Nat} (h:Rd w rb tb tc ps n d) (hb:Below w.heap.size w w'):Rd w' rb tb tc ps n d:=
 h.kp (.of hb) (by rw[hb.block rb h.lt];exact h.1)
theorem Rd.drewN {w:World} {rb tb tc:Nat} {ps:List (Thk.Tok × Value)} {n d:Nat} (h:Rd w rb tb tc ps n d) (q:Nat):Rd (w.drewN q) rb tb tc ps n d:=h
theorem zo {w:World} {b o:Nat} {cs:Array Value} {e:TypeId} {fr:Nat × Nat} (h:w.heap[b]? = some (.cells cs e fr)) (u:Value):(w.setCell ⟨b,o,none⟩ u).heap[b]? = some (.cells (cs.setIfInBounds o u) e fr):=by
 simp[World.setCell,Array.getElem?_modify,h]
theorem Rd.set1 {w:World} {rb tb tc:Nat} {ps:List (Thk.Tok × Value)} {n d:Nat} (h:Rd w rb tb tc ps n d) (m:Nat):Rd (w.setCell ⟨rb,1,none⟩ (.int .i64 m)) rb tb tc ps m d:=
 h.kp ((Kp.refl _ _ _).setRb _ _) (by rw[zo h.1];rfl)
theorem Rd.set2 {w:World} {rb tb tc:Nat} {ps:List (Thk.Tok × Value)} {n d:Nat} (h:Rd w rb tb tc ps n d) (m:Nat):Rd (w.setCell ⟨rb,2,none⟩ (.int .i64 m)) rb tb tc ps n m:=
 h.kp ((Kp.refl _ _ _).setRb _ _) (by rw[zo h.1];rfl)
theorem zdT (w:World) (rb tb tc:Nat) (ps:List (Thk.Tok × Value)) (n d:Nat) (h:Rd w rb tb tc ps n d) (hn:n+1<ps.length) (hd:d≤6) :
  Calls Tryd.prog 68 #[.pointer (some ⟨rb,0,none⟩)] w fun e w'=>e = .returned (.bool (decide (d=0) && (zt ps[n+1].1.kind == 3)))∧∃ q,w'=w.drewN q:=by
 obtain⟨c0,c1,c2,fz⟩:=h.cells
 obtain⟨k0,k1,k2,k3⟩:=h.tok' (n+1) hn
 have hl:=h.2.2.1
 have hn':(n:Int)+1<(ps.length:Int):=by omega
 clear h k1 k2 k3 fz
 by_cases h0:d=0
 ·subst h0
  go_enter Tryd.func68,Tryd.ntmps68
  go_wp2_with fail
  go_quiet (fail)
  go_wp2_with fail
  go_ret
  exact⟨by simp,_,rfl⟩
 ·have t0:((d:Int) == 0)=false:=beq_eq_false_iff_ne.2 (by omega)
  rw[decide_eq_false h0]
  go_enter Tryd.func68,Tryd.ntmps68
  go_wp2_with fail
  go_quiet (fail)
  go_wp2_with fail
  go_ret
  exact⟨by simp,_,rfl⟩
theorem qR (w:World) (rb tb tc:Nat) (ps:List (Thk.Tok × Value)) (n d:Nat) (h:Rd w rb tb tc ps n d) (hn:n<ps.length) (K:Int) (hK:zt ps[n].1.kind=K) :
  Calls Tryd.prog 52 #[.pointer (some ⟨rb,0,none⟩),.int .u8 K] w fun e w'=>e = .returned (.tuple #[zP ps[n].1 ps[n].2,.nilIface])∧Rd w' rb tb tc ps (n+1) d∧Kp rb w.heap.size w w':=by
 obtain⟨c0,c1,c2,fz⟩:=h.cells
 obtain⟨k0,k1,k2,k3⟩:=h.tok' n hn
 have hl:=h.2.2.1
 have hn':(n:Int)<(ps.length:Int):=by omega
 obtain⟨a0,b0,e0⟩:=zl (h.2.1.2 ps[n] (List.getElem_mem hn))
 have tK:(zt ps[n].1.kind != K)=false:=by rw[hK];simp
 have HK:Hid (zt ps[n].1.kind=K):=hK
 have hrl:=h.lt
 have htl:tb<w.heap.size:=((h.2.1.1.lt tb rfl).2)
 rw[e0] at k3
 have H:Hid (Rd w rb tb tc ps n d):=h
 clear h hK
 go_enter Tryd.func52,Tryd.ntmps52
 go_wp2_with fail
 go_region
 go_wp2_with fail
 refine bodyPost_ret (v:=.tuple #[zP ps[n].1 ps[n].2,.nilIface]) (by simp[results,Tryd.results52,go_sem,zP,e0]) rfl ⟨rfl,?_,?_⟩
 ·exact (H.out.set1 (n+1)).below (((Below.refl _ _).alloc (Nat.le_refl _) _).alloc (by simp) _).drew
 ·exact ((((Kp.refl _ _ _).setRb _ _).alloc (by simp) _).alloc (by simp) _).drew
theorem qQ (w:World) (rb tb tc:Nat) (ps:List (Thk.Tok × Value)) (n d:Nat) (h:Rd w rb tb tc ps n d) (hn:n<ps.length) (K:Int) (hK:zt ps[n].1.kind≠K) :
  Calls Tryd.prog 52 #[.pointer (some ⟨rb,0,none⟩),.int .u8 K] w fun e w'=>e = .returned (.tuple #[zP ps[n].1 ps[n].2,.iface 54 (.agg #[.int .i64 2,.int .i64 ps[n].1.place])])∧Rd w' rb tb tc ps n d∧Kp rb w.heap.size w w':=by
 obtain⟨c0,c1,c2,fz⟩:=h.cells
 obtain⟨k0,k1,k2,k3⟩:=h.tok' n hn
 have hl:=h.2.2.1
 have hn':(n:Int)<(ps.length:Int):=by omega
 obtain⟨a0,b0,e0⟩:=zl (h.2.1.2 ps[n] (List.getElem_mem hn))
 have tK:(zt ps[n].1.kind != K)=true:=by rw[bne_iff_ne];exact hK
 have hrl:=h.lt
 have htl:tb<w.heap.size:=((h.2.1.1.lt tb rfl).2)
 rw[e0] at k3
 have H:Hid (Rd w rb tb tc ps n d):=h
 clear h hK
 go_enter Tryd.func52,Tryd.ntmps52
 go_wp2_with fail
 go_region
 go_wp2_with fail
 go_region_with (go_at_call 53;refine (UU _ rb tb tc ps n d (by refine H.out.below ?_;repeat (first | exact Below.refl _ _ | refine Below.drew ?_ | refine Below.setCell ?_ (by simp) _ | refine Below.alloc ?_ (by simp;try omega) _)) hn _).mono ?_;rintro e w1 ⟨rfl,q,rfl⟩)
 all_goals go_wp2_with fail
 all_goals
  refine bodyPost_ret (v:=.tuple #[zP ps[n].1 ps[n].2,.iface 54 (.agg #[.int .i64 2,.int .i64 ps[n].1.place])]) (by simp[results,Tryd.results52,go_sem,zP,e0]) rfl ⟨rfl,?_,?_⟩
  ·refine H.out.below ?_
   repeat (first | exact Below.refl _ _ | refine Below.drew ?_ | refine below_drewN ?_ _ | refine Below.setCell ?_ (by simp) _ | refine Below.alloc ?_ (by simp;try omega) _)
  ·refine Kp.of ?_
   repeat (first | exact Below.refl _ _ | refine Below.drew ?_ | refine below_drewN ?_ _ | refine Below.setCell ?_ (by simp) _ | refine Below.alloc ?_ (by simp;try omega) _)
end Go.Proofs.YtiganlkabilblaaDoor
