import Derived.Test.YtiganlkabilblaaGreatDoorVU26
import Derived.Test.YtiganlkabilblaaGreatDoorVU21
import Derived.Test.YtiganlkabilblaaGreatDoorVU14
import Derived.Test.YtiganlkabilblaaGreatDoorVU03
import Derived.Shelf.Strings.OnBuilder
import Derived.BigQuiet
import Derived.Test.YtiganlkabilblaaGreatDoorVU04
import Derived.Shelf.Strings.BuilderK
import Derived.Deep.RegionHeld
import Derived.Test.YtiganlkabilblaaGreatDoorVU22
import Derived.Test.YtiganlkabilblaaGreatDoorVU13
import Derived.Laws.AppendOwnNone
import Derived.Deep.Upon
import Derived.Test.YtiganlkabilblaaGreatDoorVU12
import Derived.Test.YtiganlkabilblaaGreatDoorVU10
import Derived.Test.YtiganlkabilblaaGreatDoorVU11
import Derived.Deep.RegionHeldLaw
import Derived.Deep.RegionLaw
import Derived.Deep.DrawnRows
import Derived.Test.YtiganlkabilblaaGreatDoorVU09
import Derived.Deep.CutRange
set_option linter.all false
set_option maxHeartbeats 64000000
set_option maxRecDepth 100000
namespace Go.Proofs.YtiganlkabilblaaGreatDoor
open Go.RowKit Thk
attribute [local go_sem ↓] Go.wp_at_zero Go.wp_at_succ
theorem zfR (p q:Nt) (hp:YL p) (hq:YL q) (np:p≠.nil) (nq:q≠.nil):YL (.pair p q):=by
 intro w lb B a c xs d h hB hl hd
 simp only[szN] at hl hd
 have hll:=zd h.blk
 obtain⟨tp,vp,hvp⟩:∃ t v,ntV p = .iface t v:=by
  rcases QV p with e | e
  ·exact absurd (zad e) np
  ·exact e
 obtain⟨tq,vq,hvq⟩:∃ t v,ntV q = .iface t v:=by
  rcases QV q with e | e
  ·exact absurd (zad e) nq
  ·exact e
 obtain⟨Fp,hFp,hLp⟩:=VD hp hvp
 obtain⟨Fq,hFq,hLq⟩:=VD hq hvq
 have HP:Hid (∀ O,Calls Tryz.prog Fp #[vp,z9 lb] (w.alloc O) fun e w'=>e = .returned (.tuple #[])∧JJ lb B a c xs (zY d p) d (w.alloc O) w'):=z6 (fun O=>hLp (w.alloc O) lb B a c xs d (h.kp (zc _ _)) (by simp;omega) (by omega) (by omega))
 have HQ:Hid (∀ w1 a1 c1,Lsg w1 lb B a1 c1 (xs++zY d p) d→B≤w1.heap.size→Calls Tryz.prog Fq #[vq,z9 lb] w1 fun e w'=>e = .returned (.tuple #[])∧JJ lb B a1 c1 (xs++zY d p) (zY d q) d w1 w'):=z6 (fun w1 a1 c1 h1 hB1=>hLq w1 lb B a1 c1 _ d h1 hB1 (by rw[List.length_append,YS];omega) (by omega))
 have HO:Hid (some w.heap.size≠obS a xs.length c):=z6 (fun e=>by have:=(h.row.lt _ e.symm).2;omega)
 have n1:w.heap.size≠lb:=by omega
 have mU:=Tryz.methodListU
 have mP:=Tryz.methodListP
 have hfl:zY d (.pair p q)=zY d p++zY d q:=rfl
 rw[hvp,hvq,hfl]
 have HW:Hid (∀ O:Obj,Below w.heap.size w (w.alloc O)):=z6 (fun O=>zc _ _)
 clear hp hq hvp hvq hLp hLq hfl h
 rcases hFp with ⟨rfl,rfl⟩ | ⟨rfl,rfl⟩<;>rcases hFq with ⟨rfl,rfl⟩ | ⟨rfl,rfl⟩
 all_goals
  go_enter Tryz.func260,Tryz.ntmps260
  go_wp2_with fail
  refine (HP.out _).mono ?_
  rintro _ w1 ⟨rfl,a1,c1,h1,k1,at1⟩
  have hz1:=k1.size
  simp at hz1
  have hb1:=k1.block w.heap.size (by simp) n1 HO.out
  rw[zk] at hb1
  have q1:=z8 hb1 1
  have e1:=za hb1
  have HQ1:=z6 (HQ.out w1 a1 c1 h1 (by omega))
  have HK1:=z6 ((KpL.of_below (lb:=lb) (ob:=obS a xs.length c) (HW.out _)).trans k1 (.inl rfl))
  have HA1:=z6 at1
  clear k1 at1 hb1 h1
  go_wp2_with fail
  refine HQ1.out.mono ?_
  rintro _ w2 ⟨rfl,h2⟩
  have HZ:=z6 (JJ.trans HK1.out (by
   rcases HA1.out with e | ⟨g,e,hg⟩
   ·exact .inl e
   ·exact .inr ⟨g,e,by simp at hg;omega⟩) h2)
  clear h2
  go_wp2_with fail
  go_end0
  exact⟨rfl,HZ.out⟩
theorem UN:∀ m:Nt,wfN m→YL m
 | .nil,_=>trivial
 | .use i x y m,h=>zfS i x y m (UN m h)
 | .pair p q,h=>zfR p q (UN p h.2.2.1) (UN q h.2.2.2) h.1 h.2.1
theorem zg3 (w:World) (O:Obj):Lsg ((w.alloc O).alloc (YE (.slice none 0 0) 0)) (w.heap.size+1) (w.heap.size+2) none 0 [] 0:=by
 refine⟨?_,World.ownsRow_nil _ _ _ _⟩
 have:=zk (w.alloc O) (YE (.slice none 0 0) 0)
 simpa using this
def qy (w:World) (l:List Nod) (e:Ending) (w':World):Prop:=∃ a c,e = .returned (.slice a l.length c)∧w'.ownsRow w.heap.size 60 4 (.slice a l.length c) l.length (l.flatMap ZZ)∧Below w.heap.size w w'
theorem zgO (w:World) (i x y:Nat) (m:Nt) (hm:wfN m) (hz:szN m≤900000) :
  Calls Tryz.prog 57 #[.agg #[.int .i64 i,.int .i64 x,.int .i64 y,ntV m]] w (qy w (zY 0 (.use i x y m))):=by
 have hl:YL (.use i x y m):=UN (.use i x y m) hm
 have HL:=z6 (hl ((w.alloc (usO i x y (ntV m))).alloc (YE (.slice none 0 0) 0)) (w.heap.size+1) (w.heap.size+2) none 0 [] 0 (zg3 w _) (by simp) (by simp[szN];omega) (by simp[szN];omega))
 have hnf:=QV m
 clear hl hm
 generalize zY 0 (.use i x y m)=L at *
 generalize ntV m=nv at *
 rcases hnf with rfl | ⟨tt,vv,rfl⟩
 all_goals
  go_enter Tryz.func57,Tryz.ntmps57
  go_wp2_with fail
  refine HL.out.mono ?_
  rintro _ w1 ⟨rfl,a1,c1,h1,k1,at1⟩
  rw[List.nil_append] at h1
  have q1:w1.cell? ⟨w.heap.size+1,0,none⟩=some (.slice a1 L.length c1):=z8 h1.blk 0
  have e1:=za h1.blk
  have HZ:Hid (qy w L (.returned (.slice a1 L.length c1)) w1):=z6 ⟨a1,c1,rfl,Zn h1.row (by omega),k1.os,k1.tape,k1.output,by have:=k1.size;simp at this;omega,fun b hb=>by
   rw[k1.block b (by simp;omega) (by omega) (by simp[obS,Value.ownBlock]),zm _ _ (by simp;omega),zm _ _ hb]⟩
  clear h1 k1 at1
  go_wp2_with fail
  go_ret
  exact HZ.out
end Go.Proofs.YtiganlkabilblaaGreatDoor
namespace Go.Proofs.YtiganlkabilblaaGreatDoor
open Go.RowKit
attribute [local go_sem ↓] Go.wp_at_zero Go.wp_at_succ
structure QG (w:World) (w0:World) (tb eb ec:Nat) (vx vr:Value) (ps:List (Thk.RE × Value × Value)) (rs:List (Thk.z7 × Nat)) (s:ByteArray) (rbs:List Nat) (f:Nat) (parts:List Nat) (v:Option Nat) (O:Obj) (j:Nat) (o:Option Nat) (wr:World):Prop where
 sq:match o with
  | none=>v=none
  | some x=>Jb (evS ps rs s f) (parts.drop j) x=some v∧x≤s.size
 st:Stt w0 tb eb ec vx vr ps rs s rbs wr
 kp:KpM rbs w.heap.size w wr
 own:wr.heap[w.heap.size]? = some O
theorem KpM.below {rbs:List Nat} {B:Nat} {w w':World} (h:KpM rbs w.heap.size w w') (hr:∀ b ∈ rbs,B≤b) (hB:B≤w.heap.size):Below B w w':=⟨h.os,h.tape,h.output,h.size,fun k hk=>h.block k (by omega) (fun hb=>by have:=hr k hb;omega)⟩
end Go.Proofs.YtiganlkabilblaaGreatDoor
