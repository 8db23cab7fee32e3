import Derived.Test.YtiganlkabilblaaGreatDoorVL26
import Derived.Test.YtiganlkabilblaaGreatDoorVL21
import Derived.Test.YtiganlkabilblaaGreatDoorVL03
import Derived.Shelf.Strings.OnBuilder
set_option linter.all false
set_option maxHeartbeats 64000000
set_option maxRecDepth 100000
namespace Go.Proofs.YtiganlkabilblaaGreatDoor
open Go.RowKit Thk
attribute [local go_sem ↓] Go.wp_at_zero Go.wp_at_succ
theorem zfR (p q:Nt) (hp:YL p) (hq:YL q) (np:p≠.nil) (nq:q≠.nil):YL (.pair p q):=by
 intro w lb B a c xs d h hB hl hd
 simp only[szN] at hl hd
 have hll:=zd h.blk
 obtain⟨tp,vp,hvp⟩:∃ t v,ntV p = .iface t v:=by
  rcases QV p with e | e
  ·exact absurd (zad e) np
  ·exact e
 obtain⟨tq,vq,hvq⟩:∃ t v,ntV q = .iface t v:=by
  rcases QV q with e | e
  ·exact absurd (zad e) nq
  ·exact e
 obtain⟨Fp,hFp,hLp⟩:=VD hp hvp
 obtain⟨Fq,hFq,hLq⟩:=VD hq hvq
 have HP:Hid (∀ O,Calls Tryz.prog Fp #[vp,z9 lb] (w.alloc O) fun e w'=>e = .returned (.tuple #[])∧JJ lb B a c xs (zY d p) d (w.alloc O) w'):=z6 (fun O=>hLp (w.alloc O) lb B a c xs d (h.kp (zc _ _)) (by simp;omega) (by omega) (by omega))
 have HQ:Hid (∀ w1 a1 c1,Lsg w1 lb B a1 c1 (xs++zY d p) d→B≤w1.heap.size→Calls Tryz.prog Fq #[vq,z9 lb] w1 fun e w'=>e = .returned (.tuple #[])∧JJ lb B a1 c1 (xs++zY d p) (zY d q) d w1 w'):=z6 (fun w1 a1 c1 h1 hB1=>hLq w1 lb B a1 c1 _ d h1 hB1 (by rw[List.length_append,YS];omega) (by omega))
 have HO:Hid (some w.heap.size≠obS a xs.length c):=z6 (fun e=>by have:=(h.row.lt _ e.symm).2;omega)
 have n1:w.heap.size≠lb:=by omega
 have mU:=Tryz.methodListU
 have mP:=Tryz.methodListP
 have hfl:zY d (.pair p q)=zY d p++zY d q:=rfl
 rw[hvp,hvq,hfl]
 have HW:Hid (∀ O:Obj,Below w.heap.size w (w.alloc O)):=z6 (fun O=>zc _ _)
 clear hp hq hvp hvq hLp hLq hfl h
 rcases hFp with ⟨rfl,rfl⟩ | ⟨rfl,rfl⟩<;>rcases hFq with ⟨rfl,rfl⟩ | ⟨rfl,rfl⟩
 all_goals
  go_enter Tryz.func260,Tryz.ntmps260
  go_wp2_with fail
  refine (HP.out _).mono ?_
  rintro _ w1 ⟨rfl,a1,c1,h1,k1,at1⟩
  have hz1:=k1.size
  simp at hz1
  have hb1:=k1.block w.heap.size (by simp) n1 HO.out
  rw[zk] at hb1
  have q1:=z8 hb1 1
  have e1:=za hb1
  have HQ1:=z6 (HQ.out w1 a1 c1 h1 (by omega))
  have HK1:=z6 ((KpL.of_below (lb:=lb) (ob:=obS a xs.length c) (HW.out _)).trans k1 (.inl rfl))
  have HA1:=z6 at1
  clear k1 at1 hb1 h1
  go_wp2_with fail
  refine HQ1.out.mono ?_
  rintro _ w2 ⟨rfl,h2⟩
  have HZ:=z6 (JJ.trans HK1.out (by
   rcases HA1.out with e | ⟨g,e,hg⟩
   ·exact .inl e
   ·exact .inr ⟨g,e,by simp at hg;omega⟩) h2)
  clear h2
  go_wp2_with fail
  go_end0
  exact⟨rfl,HZ.out⟩
theorem UN:∀ m:Nt,wfN m→YL m
 | .nil,_=>trivial
 | .use i x y m,h=>zfS i x y m (UN m h)
 | .pair p q,h=>zfR p q (UN p h.2.2.1) (UN q h.2.2.2) h.1 h.2.1
theorem zg3 (w:World) (O:Obj):Lsg ((w.alloc O).alloc (YE (.slice none 0 0) 0)) (w.heap.size+1) (w.heap.size+2) none 0 [] 0:=by
 refine⟨?_,World.ownsRow_nil _ _ _ _⟩
 have:=zk (w.alloc O) (YE (.slice none 0 0) 0)
 simpa using this
def qy (w:World) (l:List Nod) (e:Ending) (w':World):Prop:=∃ a c,e = .returned (.slice a l.length c)∧w'.ownsRow w.heap.size 60 4 (.slice a l.length c) l.length (l.flatMap ZZ)∧Below w.heap.size w w'
theorem zgO (w:World) (i x y:Nat) (m:Nt) (hm:wfN m) (hz:szN m≤900000) :
  Calls Tryz.prog 57 #[.agg #[.int .i64 i,.int .i64 x,.int .i64 y,ntV m]] w (qy w (zY 0 (.use i x y m))):=by
 have hl:YL (.use i x y m):=UN (.use i x y m) hm
 have HL:=z6 (hl ((w.alloc (usO i x y (ntV m))).alloc (YE (.slice none 0 0) 0)) (w.heap.size+1) (w.heap.size+2) none 0 [] 0 (zg3 w _) (by simp) (by simp[szN];omega) (by simp[szN];omega))
 have hnf:=QV m
 clear hl hm
 generalize zY 0 (.use i x y m)=L at *
 generalize ntV m=nv at *
 rcases hnf with rfl | ⟨tt,vv,rfl⟩
 all_goals
  go_enter Tryz.func57,Tryz.ntmps57
  go_wp2_with fail
  refine HL.out.mono ?_
  rintro _ w1 ⟨rfl,a1,c1,h1,k1,at1⟩
  rw[List.nil_append] at h1
  have q1:w1.cell? ⟨w.heap.size+1,0,none⟩=some (.slice a1 L.length c1):=z8 h1.blk 0
  have e1:=za h1.blk
  have HZ:Hid (qy w L (.returned (.slice a1 L.length c1)) w1):=z6 ⟨a1,c1,rfl,Zn h1.row (by omega),k1.os,k1.tape,k1.output,by have:=k1.size;simp at this;omega,fun b hb=>by
   rw[k1.block b (by simp;omega) (by omega) (by simp[obS,Value.ownBlock]),zm _ _ (by simp;omega),zm _ _ hb]⟩
  clear h1 k1 at1
  go_wp2_with fail
  go_ret
  exact HZ.out
end Go.Proofs.YtiganlkabilblaaGreatDoor
namespace Go.Proofs.YtiganlkabilblaaGreatDoor
open Go.RowKit
attribute [local go_sem ↓] Go.wp_at_zero Go.wp_at_succ
structure QG (w:World) (w0:World) (tb eb ec:Nat) (vx vr:Value) (ps:List (Thk.RE × Value × Value)) (rs:List (Thk.z7 × Nat)) (s:ByteArray) (rbs:List Nat) (f:Nat) (parts:List Nat) (v:Option Nat) (O:Obj) (j:Nat) (o:Option Nat) (wr:World):Prop where
 sq:match o with
  | none=>v=none
  | some x=>Jb (evS ps rs s f) (parts.drop j) x=some v∧x≤s.size
 st:Stt w0 tb eb ec vx vr ps rs s rbs wr
 kp:KpM rbs w.heap.size w wr
 own:wr.heap[w.heap.size]? = some O
end Go.Proofs.YtiganlkabilblaaGreatDoor
namespace Go.Proofs.YtiganlkabilblaaGreatDoor
open Go.RowKit
def znF:Go.Shelf.Ren:=⟨fun | 156=>107 | 165=>146 | 166=>69 | 167=>197 | 169=>71 | 240=>105 | 241=>171 | 276=>144 | 277=>188 | n=>n,fun | 31=>58 | 9=>9 | 3=>3 | 4=>4 | 0=>0 | 20=>20 | 72=>138 | 76=>143 | 70=>136 | 37=>117 | 75=>78 | 127=>218 | 164=>189 | 5=>5 | 80=>47 | n=>n,fun | n=>n⟩
theorem znT:Go.Proofs.Lays.n156 Tryz.prog znF:={
 mixed:=by kernel_rfl
 f156:=Tryz.func107.trans (congrArg some (by kernel_rfl))
 f165:=Tryz.func146.trans (congrArg some (by kernel_rfl))
 f166:=Tryz.func69.trans (congrArg some (by kernel_rfl))
 f169:=Tryz.func71.trans (congrArg some (by kernel_rfl))
 f240:=Tryz.func105.trans (congrArg some (by kernel_rfl))
 f241:=Tryz.func171.trans (congrArg some (by kernel_rfl))
 f276:=Tryz.func144.trans (congrArg some (by kernel_rfl))
 f277:=Tryz.func188.trans (congrArg some (by kernel_rfl))
 t0:=Tryz.underlying0
 a0:=Tryz.isAgg0
 z0:=Tryz.sizeOf0
 v0:=Tryz.zeroValue0
 t3:=Tryz.underlying3
 a3:=Tryz.isAgg3
 z3:=Tryz.sizeOf3
 v3:=Tryz.zeroValue3
 t4:=Tryz.underlying4
 a4:=Tryz.isAgg4
 z4:=Tryz.sizeOf4
 v4:=Tryz.zeroValue4
 t9:=Tryz.underlying9
 a9:=Tryz.isAgg9
 z9:=Tryz.sizeOf9
 v9:=Tryz.zeroValue9
 t20:=Tryz.underlying20
 a20:=Tryz.isAgg20
 z20:=Tryz.sizeOf20
 v20:=Tryz.zeroValue20
 t31:=Tryz.underlying58
 a31:=Tryz.isAgg58
 z31:=Tryz.sizeOf58
 v31:=Tryz.zeroValue58
 t37:=Tryz.underlying117
 a37:=Tryz.isAgg117
 z37:=Tryz.sizeOf117
 v37:=Tryz.zeroValue117
 t70:=Tryz.underlying136
 a70:=Tryz.isAgg136
 z70:=Tryz.sizeOf136
 v70:=Tryz.zeroValue136
 t72:=Tryz.underlying138
 a72:=Tryz.isAgg138
 z72:=Tryz.sizeOf138
 v72:=Tryz.zeroValue138
 t75:=Tryz.underlying78
 a75:=Tryz.isAgg78
 z75:=Tryz.sizeOf78
 v75:=Tryz.zeroValue78
 t76:=Tryz.underlying143
 a76:=Tryz.isAgg143
 z76:=Tryz.sizeOf143
 v76:=Tryz.zeroValue143
 t127:=Tryz.underlying218
 a127:=Tryz.isAgg218
 z127:=Tryz.sizeOf218
 v127:=Tryz.zeroValue218
 t164:=Tryz.underlying189
 a164:=Tryz.isAgg189
 z164:=Tryz.sizeOf189
 v164:=Tryz.zeroValue189 }
theorem zox:Go.Proofs.Lays.n167 Tryz.prog znF:={
 mixed:=by kernel_rfl
 f167:=Tryz.func197.trans (congrArg some (by kernel_rfl))
 f240:=Tryz.func105.trans (congrArg some (by kernel_rfl))
 f276:=Tryz.func144.trans (congrArg some (by kernel_rfl))
 t0:=Tryz.underlying0
 a0:=Tryz.isAgg0
 z0:=Tryz.sizeOf0
 v0:=Tryz.zeroValue0
 t4:=Tryz.underlying4
 a4:=Tryz.isAgg4
 z4:=Tryz.sizeOf4
 v4:=Tryz.zeroValue4
 t5:=Tryz.underlying5
 a5:=Tryz.isAgg5
 z5:=Tryz.sizeOf5
 v5:=Tryz.zeroValue5
 t9:=Tryz.underlying9
 a9:=Tryz.isAgg9
 z9:=Tryz.sizeOf9
 v9:=Tryz.zeroValue9
 t20:=Tryz.underlying20
 a20:=Tryz.isAgg20
 z20:=Tryz.sizeOf20
 v20:=Tryz.zeroValue20
 t37:=Tryz.underlying117
 a37:=Tryz.isAgg117
 z37:=Tryz.sizeOf117
 v37:=Tryz.zeroValue117
 t70:=Tryz.underlying136
 a70:=Tryz.isAgg136
 z70:=Tryz.sizeOf136
 v70:=Tryz.zeroValue136
 t72:=Tryz.underlying138
 a72:=Tryz.isAgg138
 z72:=Tryz.sizeOf138
 v72:=Tryz.zeroValue138
 t75:=Tryz.underlying78
 a75:=Tryz.isAgg78
 z75:=Tryz.sizeOf78
 v75:=Tryz.zeroValue78
 t164:=Tryz.underlying189
 a164:=Tryz.isAgg189
 z164:=Tryz.sizeOf189
 v164:=Tryz.zeroValue189 }
theorem znE:Builder.Extra Tryz.prog znF:={
 sizeBuilder:=by kernel_rfl
 liesBuilder:=by kernel_rfl
 t5:=Tryz.underlying5
 a5:=Tryz.isAgg5
 z5:=Tryz.sizeOf5
 v5:=Tryz.zeroValue5
 infoByte:=by kernel_rfl
 cellsByte:=by kernel_rfl
 sizeByte:=by kernel_rfl
 neB5:=by decide }
abbrev Bld (B b:Nat) (l:List UInt8) (w:World):Prop:=Lib.IsBuilder 138 5 B b (Lib.byteCells l) w
theorem zoz (w:World):Bld w.heap.size w.heap.size [] (w.alloc (.cells #[.pointer none,.slice none 0 0] 138)):=by
 refine .inl ⟨Nat.le_refl _,.slice none 0 0,?_,World.ownsRow_nil _ _ _ _,by simp[Value.ownBlock]⟩
 exact zk w _
theorem zoD (l:List UInt8) (s:ByteArray):Lib.byteCells l++Lib.strCells s=Lib.byteCells (l++s.data.toList):=by
 simp[Lib.byteCells,Lib.strCells]
theorem zpz (B b:Nat) (l:List UInt8) (s:ByteArray) (w:World) (h:Bld B b l w) (hlen:l.length+s.size≤140737488355328) (hBw:B≤w.heap.size) :
  Calls Tryz.prog 69 #[.pointer (some ⟨b,0,none⟩),.string s] w fun e w'=>e = .returned (.tuple #[.int .i64 s.size,.nilIface])∧Bld B b (l++s.data.toList) w'∧Below B w w':=by
 have L:Go.Proofs.Lays.n166 Tryz.prog znF:={ znT with }
 refine (Any.Builder_WriteString L znE B b _ s w h (by simpa [Lib.byteCells] using hlen) hBw).mono ?_
 rintro e w' ⟨he,h1,h2⟩
 refine⟨he,.inr ?_,h2⟩
 rw[zoD] at h1
 exact h1
theorem zpA (B b:Nat) (l:List UInt8) (c:UInt8) (w:World) (h:Bld B b l w) (hlen:l.length+1≤140737488355328) (hBw:B≤w.heap.size) :
  Calls Tryz.prog 197 #[.pointer (some ⟨b,0,none⟩),.int .u8 c.toNat] w fun e w'=>e = .returned .nilIface∧Bld B b (l++[c]) w'∧Below B w w':=by
 refine (Any.Builder_WriteByte zox znE B b _ c.toNat w h (by simpa [Lib.byteCells] using hlen) hBw).mono ?_
 rintro e w' ⟨he,h1,h2⟩
 refine⟨he,.inr ?_,h2⟩
 have e2:Lib.byteCells (l++[c])=Lib.byteCells l++[.int .u8 c.toNat]:=by simp[Lib.byteCells]
 rw[e2]
 exact h1
theorem zpy (B b:Nat) (l:List UInt8) (w:World) (h:Bld B b l w) (hBw:B≤w.heap.size) :
  Calls Tryz.prog 71 #[.pointer (some ⟨b,0,none⟩)] w fun e w'=>e = .returned (.string ⟨l.toArray⟩)∧Below B w w':=by
 have L:Go.Proofs.Lays.n169 Tryz.prog znF:={ znT with }
 exact Any.Builder_String_any L znE B b l w h hBw
theorem zpv (bk o c:Nat) (xs:List ByteArray) (sep:ByteArray) (w:World)
  (hcells:∀ (j:Nat) x,xs[j]? = some x→w.cell? ⟨bk,o+j,none⟩=some (.string x))
  (hbk:bk<w.heap.size) (hN:xs.length≤140737488355328) (hcap:xs.length≤c)
  (hlen:(Lib.join (xs.map (·.data.toList)) sep.data.toList).length≤140737488355328) :
  Calls Tryz.prog 107 #[.slice (some ⟨bk,o,none⟩) xs.length c,.string sep] w fun e w'=>e = .returned (.string ⟨(Lib.join (xs.map (·.data.toList)) sep.data.toList).toArray⟩)∧Below w.heap.size w w':=
 Any.strings_Join znT znE bk o c xs sep w hcells hbk hN hcap hlen
end Go.Proofs.YtiganlkabilblaaGreatDoor
