import Derived.Test.YtiganlkabilblaaDoorV08
import Derived.Test.YtiganlkabilblaaDoorV00
set_option linter.all false
set_option maxHeartbeats 64000000
set_option maxRecDepth 100000
namespace Go.Proofs.YtiganlkabilblaaDoor
open Go.RowKit Go.Extern.Stop Go.Stop Go.Extern
theorem Tryd.isNilRun (a:Addr) (W:World):(ReflectliteValue.method (ReflectliteValue.valueError "reflectlite.Value.IsNil" 0) ReflectliteValue.isNil #[.agg #[.pointer (some ⟨2,56,none⟩),.pointer (some a),.int .u64 150]]).run Tryd.prog W
  = (ReflectliteValue.isNil 56 a 150 22).run Tryd.prog W:=by kernel_rfl
theorem Tryd.isNilP (a p:Addr) (W:World) (ha:W.cell? a=some (.pointer (some p))) :
  (ReflectliteValue.method (ReflectliteValue.valueError "reflectlite.Value.IsNil" 0) ReflectliteValue.isNil #[.agg #[.pointer (some ⟨2,56,none⟩),.pointer (some a),.int .u64 150]]).run Tryd.prog W = .ok (.bool false) W:=by
 rw[Tryd.isNilRun]
 simp[ReflectliteValue.isNil,loadVar,isAgg,underlying,Tryd.underlying56,ha,Result.andThen]
theorem Tryd.elemRun (a:Addr) (W:World):(ReflectliteValue.method (ReflectliteValue.valueError "reflectlite.Value.Elem" 0) ReflectliteValue.elem #[.agg #[.pointer (some ⟨2,56,none⟩),.pointer (some a),.int .u64 150]]).run Tryd.prog W
  = (ReflectliteValue.elem 56 a 150 22).run Tryd.prog W:=by kernel_rfl
theorem Tryd.elemVP (a p:Addr) (W:World) (ha:W.cell? a=some (.pointer (some p))) :
  (ReflectliteValue.method (ReflectliteValue.valueError "reflectlite.Value.Elem" 0) ReflectliteValue.elem #[.agg #[.pointer (some ⟨2,56,none⟩),.pointer (some a),.int .u64 150]]).run Tryd.prog W
   = .ok (.agg #[.pointer (some ⟨2,54,none⟩),.pointer (some p),.int .u64 409]) W:=by
 rw[Tryd.elemRun]
 simp[ReflectliteValue.elem,loadVar,isAgg,underlying,Tryd.underlying56,ha,Result.andThen,Tryd.elemOfP,Tryd.mkF]
theorem Tryd.setRun (ta b:Addr) (W:World):(ReflectliteValue.set #[.agg #[.pointer (some ⟨2,54,none⟩),.pointer (some ta),.int .u64 409],.agg #[.pointer (some ⟨2,54,none⟩),.pointer (some b),.int .u64 153]]).run Tryd.prog W
  = (loadVar 54 b >>= fun v=>storeVar 54 ta v >>= fun _=>pure (.tuple #[])).run Tryd.prog W:=by kernel_rfl
theorem Tryd.setF (tb b:Nat) (x y o1 o2:Int) (W:World) (hb:W.heap[b]? = some (.cells #[.int .i64 x,.int .i64 y] 54 (0,0))) (ht:W.heap[tb]? = some (.cells #[.int .i64 o1,.int .i64 o2] 54 (0,0))) :
  (ReflectliteValue.set #[.agg #[.pointer (some ⟨2,54,none⟩),.pointer (some ⟨tb,0,none⟩),.int .u64 409],.agg #[.pointer (some ⟨2,54,none⟩),.pointer (some ⟨b,0,none⟩),.int .u64 153]]).run Tryd.prog W
   = .ok (.tuple #[]) ((W.setCell ⟨tb,0,none⟩ (.int .i64 x)).setCell ⟨tb,1,none⟩ (.int .i64 y)):=by
 have c0:=z8 hb 0
 have c1:=z8 hb 1
 have t0:=z8 ht 0
 have f0:=zi ht 0
 have h1:=zo (o:=0) ht (.int .i64 x)
 have t1:(W.setCell ⟨tb,0,none⟩ (.int .i64 x)).cell? ⟨tb,1,none⟩=some (.int .i64 o2):=by rw[z8 h1];rfl
 have f1:=zi h1 1
 rw[Tryd.setRun]
 simp only[Sem.run_bind]
 simp[loadVar,Tryd.isAggF,Tryd.sizeF,Result.andThen,go_sem,c0,c1,t0,f0,t1,f1]
theorem Tryd.methodKind (h:Value) (w:World):(Go.method 290 110 (.agg #[h]) "Kind").run Tryd.prog w = .ok (87,h) w:=by kernel_rfl
theorem Tryd.methodElem (h:Value) (w:World):(Go.method 290 110 (.agg #[h]) "Elem").run Tryd.prog w = .ok (98,.agg #[h]) w:=by kernel_rfl
theorem Tryd.methodImpl (h:Value) (w:World):(Go.method 290 110 (.agg #[h]) "Implements").run Tryd.prog w = .ok (99,.agg #[h]) w:=by kernel_rfl
theorem Tryd.methodAssign (h:Value) (w:World):(Go.method 290 110 (.agg #[h]) "AssignableTo").run Tryd.prog w = .ok (96,.agg #[h]) w:=by kernel_rfl
abbrev V3 (a:Addr):Obj:=.cells #[.pointer (some ⟨2,56,none⟩),.pointer (some a),.int .u64 150] 70
abbrev UT (tb:Nat):Obj:=.cells #[.pointer (some ⟨tb,0,none⟩)] 56
abbrev ztH (x y:Int):Obj:=.cells #[.int .i64 x,.int .i64 y] 54
theorem zdO (x y o1 o2:Int) (tb:Nat) (w:World) (hg:w.cell? ⟨0,0,none⟩=some (.iface 110 (.agg #[.pointer (some ⟨2,44,none⟩)])))
  (ht:w.heap[tb]? = some (.cells #[.int .i64 o1,.int .i64 o2] 54 (0,0))) :
  Calls Tryd.prog 16 #[.iface 54 (.agg #[.int .i64 x,.int .i64 y]),.iface 56 (.pointer (some ⟨tb,0,none⟩))] w fun ev w'=>ev = .returned (.bool true)∧w'.heap[tb]? = some (.cells #[.int .i64 x,.int .i64 y] 54 (0,0))∧Kp tb w.heap.size w w':=by
 have h25:=@run_callFunc_extern Tryd.prog 25 _ (fun args=>ReflectliteValue.unpack (args.getD 0 (.tuple #[]))) Tryd.func25 (by kernel_rfl) (by kernel_rfl) (by kernel_rfl) (by kernel_rfl)
 have h26:=@run_callFunc_extern Tryd.prog 26 _ (ReflectliteValue.methodAny (ReflectliteValue.valueError "reflectlite.Value.Type" 0) (fun t _ _ _=>ReflectliteType.toType t)) Tryd.func26 (by kernel_rfl) (by kernel_rfl) (by kernel_rfl) (by kernel_rfl)
 have h27:=@run_callFunc_extern Tryd.prog 27 _ (ReflectliteValue.method (ReflectliteValue.valueError "reflectlite.Value.IsNil" 0) ReflectliteValue.isNil) Tryd.func27 (by kernel_rfl) (by kernel_rfl) (by kernel_rfl) (by kernel_rfl)
 have hkd:=@run_callFunc_extern Tryd.prog 87 _ (ReflectliteType.abiMethod fun t=>(fun a:Nat=>Value.int IntKind.u8 (a:Int)) <$> Rtype.kind t) Tryd.func87 (by kernel_rfl) (by kernel_rfl) (by kernel_rfl) (by kernel_rfl)
 have hel:=@run_callFunc_extern Tryd.prog 98 _ (ReflectliteType.method ReflectliteType.elem) Tryd.func98 (by kernel_rfl) (by kernel_rfl) (by kernel_rfl) (by kernel_rfl)
 have him:=@run_callFunc_extern Tryd.prog 99 _ (ReflectliteType.relation "Implements" ReflectliteType.implements_) Tryd.func99 (by kernel_rfl) (by kernel_rfl) (by kernel_rfl) (by kernel_rfl)
 have hto:=@run_callFunc_extern Tryd.prog 41 _ ReflectliteType.typeOf Tryd.func41 (by kernel_rfl) (by kernel_rfl) (by kernel_rfl) (by kernel_rfl)
 have has:=@run_callFunc_extern Tryd.prog 96 _ (ReflectliteType.relation "AssignableTo" ReflectliteType.assignableTo) Tryd.func96 (by kernel_rfl) (by kernel_rfl) (by kernel_rfl) (by kernel_rfl)
 have hev:=@run_callFunc_extern Tryd.prog 42 _ (ReflectliteValue.method (ReflectliteValue.valueError "reflectlite.Value.Elem" 0) ReflectliteValue.elem) Tryd.func42 (by kernel_rfl) (by kernel_rfl) (by kernel_rfl) (by kernel_rfl)
 have hst:=@run_callFunc_extern Tryd.prog 43 _ ReflectliteValue.set Tryd.func43 (by kernel_rfl) (by kernel_rfl) (by kernel_rfl) (by kernel_rfl)
 have f1:=Tryd.valueOfP
 have f2:=Tryd.typeP
 have mK:=Tryd.methodKind
 have mE:=Tryd.methodElem
 have mI:=Tryd.methodImpl
 have mA:=Tryd.methodAssign
 have k1:=Tryd.kindP
 have k2:=Tryd.kindF
 have e1:=Tryd.elemP
 have i1:=Tryd.implF
 have t1:=Tryd.typeOfF
 have a1:=Tryd.assignF
 have v1:=Tryd.valueOfF
 have htl:=zd ht
 have hgl : 0<w.heap.size:=by
  rcases Nat.lt_or_ge 0 w.heap.size with h | h
  ·exact h
  ·simp[World.cell?,Array.getElem?_eq_none h] at hg
 have n8:=Tryd.isNilP ⟨w.heap.size,0,none⟩ ⟨tb,0,none⟩ ((w.alloc (UT tb)).alloc (V3 ⟨w.heap.size,0,none⟩)) (by rw[World.cell?_alloc_lt _ _ _ (by simp)];simp)
 have hg2:((w.alloc (UT tb)).alloc (V3 ⟨w.heap.size,0,none⟩)).cell? ⟨0,0,none⟩=some (.iface 110 (.agg #[.pointer (some ⟨2,44,none⟩)])):=by
  rw[World.cell?_alloc_lt _ _ _ (by simp only[World.size_alloc];omega),World.cell?_alloc_lt _ _ _ (by simp only[];omega)];exact hg
 have el:=Tryd.elemVP ⟨w.heap.size,0,none⟩ ⟨tb,0,none⟩ (((w.alloc (UT tb)).alloc (V3 ⟨w.heap.size,0,none⟩)).alloc (V3 ⟨w.heap.size,0,none⟩)) (by rw[World.cell?_alloc_lt _ _ _ (by simp;omega),World.cell?_alloc_lt _ _ _ (by simp)];simp)
 obtain⟨X,hX⟩:∃ X,X=(((w.alloc (UT tb)).alloc (V3 ⟨w.heap.size,0,none⟩)).alloc (V3 ⟨w.heap.size,0,none⟩)).alloc (ztH x y):=⟨_,rfl⟩
 have hXsz:X.heap.size=w.heap.size+4:=by rw[hX];simp
 have hBX:Below w.heap.size w X:=by rw[hX];exact (((zc _ _).alloc (by simp) _).alloc (by simp;omega) _).alloc (by simp;omega) _
 have hXt:X.heap[tb]? = some (.cells #[.int .i64 o1,.int .i64 o2] 54 (0,0)):=by rw[hBX.block _ htl];exact ht
 have st:=Tryd.setF tb (w.heap.size+1+1+1) x y o1 o2 X (by rw[hX];exact Ji _ _ _ (by simp)) hXt
 rw[hX] at st
 go_enter Tryd.func16,Tryd.ntmps16
 go_wp2
 refine wp_loop_rounds 1 ?_
 rw[rounds_succ]
 go_wp2
 go_ret
 rw[← hX]
 refine⟨rfl,?_,((Kp.of hBX).setRb _ _).setRb _ _⟩
 rw[zo (zo hXt _)]
 rfl
end Go.Proofs.YtiganlkabilblaaDoor
namespace Go.Proofs.YtiganlkabilblaaDoor
open Go.RowKit
def QD (w:World):Prop:=w.cell? ⟨0,0,none⟩=some (.iface 110 (.agg #[.pointer (some ⟨2,44,none⟩)]))
theorem QD.lt {w:World} (h:QD w) : 0<w.heap.size:=by
 rcases Nat.lt_or_ge 0 w.heap.size with h' | h'
 ·exact h'
 ·unfold QD at h;simp[World.cell?,Array.getElem?_eq_none h'] at h
theorem QD.below {w w':World} (h:QD w) (hb:Below w.heap.size w w'):QD w':=by
 have:=hb.cell (p:=⟨0,0,none⟩) h.lt
 unfold QD at h ⊢;rw[this];exact h
theorem zjg (w:World):Calls Tryd.prog 12 #[.nilIface] w fun e w'=>e = .returned (.tuple #[.int .i64 0,.int .i64 0])∧Below w.heap.size w w':=by
 go_enter Tryd.func12,Tryd.ntmps12
 go_wp2_with (first | (go_at_call 16;refine (zdP _ _).mono ?_;rintro e w' ⟨rfl,rfl⟩))
 go_ret2
 exact⟨rfl,zc _ _⟩
theorem zjf (er p:Nat) (w:World) (hg:QD w):Calls Tryd.prog 12 #[zS er p] w fun e w'=>e = .returned (.tuple #[.int .i64 er,.int .i64 p])∧Below w.heap.size w w':=by
 have hB:Below w.heap.size w (w.alloc (.cells #[.int .i64 0,.int .i64 0] 54)):=zc _ _
 have hl:=hg.lt
 have ha:=zdO er p 0 0 w.heap.size (w.alloc (.cells #[.int .i64 0,.int .i64 0] 54)) (hg.below hB) (zk _ _)
 simp only[zS]
 clear hg
 go_enter Tryd.func12,Tryd.ntmps12
 go_wp2_with fail
 refine ha.mono ?_
 rintro e w1 ⟨rfl,h1,hK⟩
 have c0:=z8 h1 0
 have c1:=z8 h1 1
 have HB:Hid (Below w.heap.size w w1):=hB.trans (Kp.below (hK.mono (by simp)) (Nat.le_refl _))
 clear ha hK h1 hB
 go_wp2_with fail
 go_quiet (fail)
 go_wp2_with fail
 go_ret2
 exact⟨rfl,below_drewN HB.out _⟩
inductive Zo (l:List UInt8):Except (Nat × Nat) (List Thk.ze × List Bool)→Prop
 | text {x}:Zs l (.error x)→Zo l (.error x)
 | rules {g x}:Zs l (.ok g)→Qh g (.error x)→Zo l (.error x)
 | ok {g E}:Zs l (.ok g)→Qh g (.ok E)→Zo l (.ok (g,E))
def zdo (l:List UInt8) (w:World) (e:Ending) (w':World):Prop:=
 ∃ res,Zo l res∧Below w.heap.size w w'∧match res with
  | .ok (g,E)=>g≠[]∧g.length≤20∧∃ a cp mb eb,e = .returned (.tuple #[.slice (some a) g.length cp,zI mb eb g.length,.nilIface])∧Zj w' (w.heap.size≤·) g (.slice (some a) g.length cp)∧zQ w' mb eb (zg g) E
  | .error (er,p)=>e = .returned (.tuple #[.slice none 0 0,K3,zS er p])
theorem zhC (s:ByteArray) (w:World) (hs:s.size≤maxLen) :
  Calls Tryd.prog 11 #[.string s] w fun e w'=>zdo s.data.toList w e w':=by
 have hrd:=zhD s (w.alloc JY) hs
 go_enter Tryd.func11,Tryd.ntmps11
 go_wp2_with fail
 refine hrd.mono ?_
 rintro e w1 ⟨res,hP,hb,hE⟩
 have hs1:=hb.size
 simp at hs1
 have hr1:w1.heap[w.heap.size]? = some JY:=by rw[hb.block _ (by simp)];exact zk _ _
 have q1:=z8 hr1
 have f1:=zi hr1
 have hlt1:w.heap.size<w1.heap.size:=by omega
 have HB1:Hid (Below w.heap.size w w1):=(zc _ _).trans (hb.mono (by simp))
 have HP:Hid (Zs s.data.toList res):=hP
 have HR1:Hid (w1.heap[w.heap.size]? = some JY):=hr1
 clear hrd hP hr1
 cases res with
 | error x=>
  obtain⟨er,p⟩:=x
  simp only[zS] at hE
  subst hE
  clear hb
  go_wp2_with fail
  refine bodyPost_ret (v:=.tuple #[.slice none 0 0,K3,zS er p]) (by simp[results,Tryd.results11,go_sem,zS,q1,hlt1]) rfl ?_
  exact⟨.error (er,p),.text HP.out,(HB1.out.setCell (Nat.le_refl _) _).setCell (Nat.le_refl _) _,rfl⟩
 | ok g=>
  obtain⟨hg0,hgl,a,cp,rfl,hG⟩:=hE
  have hlk:=zfY w1 _ g a cp hG hgl hg0
  have HG:Hid (Zj w1 ((w.alloc JY).heap.size≤·) g (.slice (some a) g.length cp)):=hG
  clear hG hb
  go_wp2_with fail
  refine hlk.mono ?_
  rintro e w2 ⟨res2,hP2,hb2,hE2⟩
  have hs2:=hb2.size
  have hr2:w2.heap[w.heap.size]? = some JY:=by rw[hb2.block _ hlt1];exact HR1.out
  have q2:=z8 hr2
  have f2:=zi hr2
  have hlt2:w.heap.size<w2.heap.size:=by omega
  have HB2:Hid (Below w.heap.size w w2):=HB1.out.trans (hb2.mono (by omega))
  have HP2:Hid (Qh g res2):=hP2
  have HG2:Hid (Zj w2 ((w.alloc JY).heap.size≤·) g (.slice (some a) g.length cp)):=HG.out.kept (ZF hb2)
  have HR2:Hid (w2.heap[w.heap.size]? = some JY):=hr2
  clear hlk hP2 hb2 hr2 q1 f1
  cases res2 with
  | error x=>
   obtain⟨er,p⟩:=x
   simp only[zS] at hE2
   subst hE2
   go_wp2_with fail
   refine bodyPost_ret (v:=.tuple #[.slice none 0 0,K3,zS er p]) (by simp[results,Tryd.results11,go_sem,zS,q2,hlt2]) rfl ?_
   exact⟨.error (er,p),.rules HP.out HP2.out,((HB2.out.setCell (Nat.le_refl _) _).setCell (Nat.le_refl _) _).alloc (by simp;omega) _,rfl⟩
  | ok E=>
   obtain⟨mb,eb,rfl,hF⟩:=hE2
   have HF:Hid (zQ w2 mb eb (zg g) E):=hF
   have hml:=hF.map.lt
   have hel:=zd hF.emp
   have hmne:mb≠w.heap.size:=by
    intro e
    obtain⟨D,⟨es,cl,h1,_⟩,_⟩:=hF.map
    rw[e,HR2.out] at h1
    simp at h1
   have hene:eb≠w.heap.size:=by
    intro e
    have h1:=hF.emp
    rw[e,HR2.out] at h1
    simp[zH] at h1
   simp only[zI]
   clear hF
   go_wp2_with fail
   go_region
   all_goals go_wp2_with fail
   refine bodyPost_ret (v:=.tuple #[.slice (some a) g.length cp,zI mb eb g.length,.nilIface]) (by simp[results,Tryd.results11,go_sem,zI,q2,hlt2]) rfl ?_
   have hbl:∀ O u1 u2 b,b≠w.heap.size→b<w2.heap.size→(((w2.setCell ⟨w.heap.size,0,none⟩ u1).setCell ⟨w.heap.size,1,none⟩ u2).alloc O).drew.heap[b]? = w2.heap[b]? := by
    intro O u1 u2 b h1 h2
    show (((w2.setCell ⟨w.heap.size,0,none⟩ u1).setCell ⟨w.heap.size,1,none⟩ u2).alloc O).heap[b]? = _
    rw[zm _ _ (by simp;omega),Below.heap_setCell _ _ _ _ h1,Below.heap_setCell _ _ _ _ h1]
   refine⟨.ok (g,E),.ok HP.out HP2.out,(((HB2.out.setCell (Nat.le_refl _) _).setCell (Nat.le_refl _) _).alloc (by simp;omega) _).drew,hg0,hgl,a,cp,mb,eb,rfl,?_,?_⟩
   ·have hG3:Zj (((w2.setCell ⟨w.heap.size,0,none⟩ (.map (some mb))).setCell ⟨w.heap.size,1,none⟩ (.slice (some ⟨eb,0,none⟩) g.length g.length)).alloc (ZB mb eb g.length)).drew ((w.alloc JY).heap.size≤·) g (.slice (some a) g.length cp):=HG2.out.kept ⟨fun u l hl=>VL (b:=w.heap.size) hl (fun b h1 h2=>hbl _ _ _ b h1 h2) HR2.out (by decide),fun b h1 h2=>hbl _ _ _ b (by simp at h2;omega) h1⟩
    obtain⟨vs,h1,h2⟩:=hG3
    exact⟨vs,h1.mono (fun b _ hb=>by simp at hb;omega),zW.mono (fun b _ hb=>by simp at hb;omega) h2⟩
   ·exact HF.out.blocks (hbl _ _ _ mb hmne hml) (hbl _ _ _ eb hene hel)
def zlY (l:List UInt8) (w:World) (e:Ending) (w':World):Prop:=
 Below w.heap.size w w'∧∃ res,Zo l res∧match res with
  | .ok _=>e = .returned (.tuple #[.int .i64 0,.int .i64 0])
  | .error (er,p)=>e = .returned (.tuple #[.int .i64 er,.int .i64 p])
theorem zm6 (s:ByteArray) (w:World) (hs:s.size≤maxLen) (hg:QD w) :
  Calls Tryd.prog 5 #[.string s] w fun e w'=>zlY s.data.toList w e w':=by
 have hrd:=zhC s w hs
 have HG:Hid (QD w):=hg
 clear hg
 go_enter Tryd.func5,Tryd.ntmps5
 go_wp2_with fail
 refine hrd.mono ?_
 rintro e w1 ⟨res,hP,hb,hE⟩
 have HB:Hid (Below w.heap.size w w1):=hb
 have hs1:=hb.size
 have HP:Hid (Zo s.data.toList res):=hP
 clear hrd hP hb
 cases res with
 | error x=>
  obtain⟨er,p⟩:=x
  have htd:=fun O=>zjf er p (w1.alloc O) (HG.out.below (HB.out.alloc hs1 O))
  simp only[zS] at hE htd
  subst hE
  go_wp2_with fail
  refine (htd _).mono ?_
  rintro e w2 ⟨rfl,hb2⟩
  have HB2:Hid (Below w.heap.size w w2):=(HB.out.alloc hs1 _).trans (hb2.mono (by simp;omega))
  clear htd hb2
  go_wp2_with fail
  go_ret2
  exact⟨HB2.out,.error (er,p),HP.out,rfl⟩
 | ok y=>
  obtain⟨g,E⟩:=y
  obtain⟨_,_,a,cp,mb,eb,rfl,_,_⟩:=hE
  have htd:=fun O=>zjg (w1.alloc O)
  simp only[zI]
  go_wp2_with fail
  refine (htd _).mono ?_
  rintro e w2 ⟨rfl,hb2⟩
  have HB2:Hid (Below w.heap.size w w2):=(HB.out.alloc hs1 _).trans (hb2.mono (by simp;omega))
  clear htd hb2
  go_wp2_with fail
  go_ret2
  exact⟨HB2.out,.ok (g,E),HP.out,rfl⟩
end Go.Proofs.YtiganlkabilblaaDoor
namespace Thk
def Js (d:Nat) (ts:List Tok) (r:Res zC):Prop:=∀ r',Qi d ts r'→r=r'
def Yc (d:Nat) (ts:List Tok) (r:Res Term):Prop:=∀ r',QF d ts r'→r=r'
def J2 (d:Nat) (ts:List Tok) (r:Res Seq):Prop:=∀ r',ZW d ts r'→r=r'
def Je (d:Nat) (ts:List Tok) (r:Res Z5):Prop:=∀ r',Z8 d ts r'→r=r'
theorem Uy {d:Nat} {ts:List Tok} {p:zC} (hp:zU (hd ts)=some p):Js d ts (.ok p ts.tail):=by
 intro r' h'
 cases h' with
 | plain hp'=>rw[hp] at hp';cases hp';rfl
 | bad hn _=>rw[hp] at hn;cases hn
 | deep hk=>exact absurd hp (by simp[zU,hk])
 | group hk _ _ _=>exact absurd hp (by simp[zU,hk])
 | unclosed hk _ _ _=>exact absurd hp (by simp[zU,hk])
 | inner hk _ _=>exact absurd hp (by simp[zU,hk])
theorem Uu {d:Nat} {ts:List Tok} (hn:zU (hd ts)=none) (hk:(hd ts).kind≠.sign 40):Js d ts (.err 2 (hd ts).place):=by
 intro r' h'
 cases h' with
 | plain hp'=>rw[hn] at hp';cases hp'
 | bad _ _=>rfl
 | deep hk'=>exact absurd hk' hk
 | group hk' _ _ _=>exact absurd hk' hk
 | unclosed hk' _ _ _=>exact absurd hk' hk
 | inner hk' _ _=>exact absurd hk' hk
theorem Uv {ts:List Tok} (hk:(hd ts).kind = .sign 40):Js 6 ts (.err 3 (hd ts).place):=by
 intro r' h'
 cases h' with
 | plain hp'=>exact absurd hp' (by simp[zU,hk])
 | bad _ hk'=>exact absurd hk hk'
 | deep _=>rfl
 | group _ hd _ _=>exact absurd rfl hd
 | unclosed _ hd _ _=>exact absurd rfl hd
 | inner _ hd _=>exact absurd rfl hd
theorem Uw {d:Nat} {ts:List Tok} {c:Z5} {rest:List Tok} (hk:(hd ts).kind = .sign 40) (hd':d≠6) (hc:Z8 (d+1) ts.tail (.ok c rest)) (hcl:(hd rest).kind = .sign 41) (ihc:Je (d+1) ts.tail (.ok c rest)):Js d ts (.ok (.group c) rest.tail):=by
 intro r' h'
 cases h' with
 | plain hp'=>exact absurd hp' (by simp[zU,hk])
 | bad _ hk'=>exact absurd hk hk'
 | deep _=>exact absurd rfl hd'
 | group _ _ hc' _=>have:=ihc _ hc';cases this;rfl
 | unclosed _ _ hc' hcl'=>have:=ihc _ hc';cases this;exact absurd hcl hcl'
 | inner _ _ hc'=>have:=ihc _ hc';cases this
theorem Uz {d:Nat} {ts:List Tok} {c:Z5} {rest:List Tok} (hk:(hd ts).kind = .sign 40) (hd':d≠6) (hc:Z8 (d+1) ts.tail (.ok c rest)) (hcl:(hd rest).kind≠.sign 41) (ihc:Je (d+1) ts.tail (.ok c rest)):Js d ts (.err 2 (hd rest).place):=by
 intro r' h'
 cases h' with
 | plain hp'=>exact absurd hp' (by simp[zU,hk])
 | bad _ hk'=>exact absurd hk hk'
 | deep _=>exact absurd rfl hd'
 | group _ _ hc' hcl'=>have:=ihc _ hc';cases this;exact absurd hcl' hcl
 | unclosed _ _ hc' _=>have:=ihc _ hc';cases this;rfl
 | inner _ _ hc'=>have:=ihc _ hc';cases this
theorem Ux {d:Nat} {ts:List Tok} {e p:Nat} (hk:(hd ts).kind = .sign 40) (hd':d≠6) (hc:Z8 (d+1) ts.tail (.err e p)) (ihc:Je (d+1) ts.tail (.err e p)):Js d ts (.err e p):=by
 intro r' h'
 cases h' with
 | plain hp'=>exact absurd hp' (by simp[zU,hk])
 | bad _ hk'=>exact absurd hk hk'
 | deep _=>exact absurd rfl hd'
 | group _ _ hc' _=>have:=ihc _ hc';cases this
 | unclosed _ _ hc' _=>have:=ihc _ hc';cases this
 | inner _ _ hc'=>have:=ihc _ hc';cases this;rfl
theorem UF {d:Nat} {ts:List Tok} {p:zC} {rest:List Tok} (hp:Qi d (Z9 ts).2 (.ok p rest)) (ihp:Js d (Z9 ts).2 (.ok p rest)):Yc d ts (.ok (.mk (Z9 ts).1 p (Zg rest).1) (Zg rest).2):=by
 intro r' h'
 cases h' with
 | ok hp'=>have:=ihp _ hp';cases this;rfl
 | err hp'=>have:=ihp _ hp';cases this
theorem UE {d:Nat} {ts:List Tok} {e p:Nat} (hp:Qi d (Z9 ts).2 (.err e p)) (ihp:Js d (Z9 ts).2 (.err e p)):Yc d ts (.err e p):=by
 intro r' h'
 cases h' with
 | ok hp'=>have:=ihp _ hp';cases this
 | err hp'=>have:=ihp _ hp';cases this;rfl
theorem UD {d:Nat} {ts:List Tok} (hb:zX d ts=false):J2 d ts (.ok [] ts):=by
 intro r' h'
 cases h' with
 | nil _=>rfl
 | cons hb' _ _=>rw[hb] at hb';cases hb'
 | err hb' _=>rw[hb] at hb';cases hb'
 | later hb' _ _=>rw[hb] at hb';cases hb'
theorem UA {d:Nat} {ts:List Tok} {t:Term} {rest:List Tok} {s:Seq} {rest':List Tok} (hb:zX d ts=true) (ht:QF d ts (.ok t rest)) (hs:ZW d rest (.ok s rest')) (iht:Yc d ts (.ok t rest)) (ihs:J2 d rest (.ok s rest')):J2 d ts (.ok (t::s) rest'):=by
 intro r' h'
 cases h' with
 | nil hb'=>rw[hb] at hb';cases hb'
 | cons _ ht' hs'=>have:=iht _ ht';cases this;have:=ihs _ hs';cases this;rfl
 | err _ ht'=>have:=iht _ ht';cases this
 | later _ ht' hs'=>have:=iht _ ht';cases this;have:=ihs _ hs';cases this
theorem UB {d:Nat} {ts:List Tok} {e p:Nat} (hb:zX d ts=true) (ht:QF d ts (.err e p)) (iht:Yc d ts (.err e p)):J2 d ts (.err e p):=by
 intro r' h'
 cases h' with
 | nil hb'=>rw[hb] at hb';cases hb'
 | cons _ ht' _=>have:=iht _ ht';cases this
 | err _ ht'=>have:=iht _ ht';cases this;rfl
 | later _ ht' _=>have:=iht _ ht';cases this
theorem UC {d:Nat} {ts:List Tok} {t:Term} {rest:List Tok} {e p:Nat} (hb:zX d ts=true) (ht:QF d ts (.ok t rest)) (hs:ZW d rest (.err e p)) (iht:Yc d ts (.ok t rest)) (ihs:J2 d rest (.err e p)):J2 d ts (.err e p):=by
 intro r' h'
 cases h' with
 | nil hb'=>rw[hb] at hb';cases hb'
 | cons _ ht' hs'=>have:=iht _ ht';cases this;have:=ihs _ hs';cases this
 | err _ ht'=>have:=iht _ ht';cases this
 | later _ ht' hs'=>have:=iht _ ht';cases this;have:=ihs _ hs';cases this;rfl
theorem Ur {d:Nat} {ts:List Tok} {s:Seq} {rest:List Tok} (hs:ZW d ts (.ok s rest)) (hk:(hd rest).kind≠.sign 47) (ihs:J2 d ts (.ok s rest)):Je d ts (.ok [s] rest):=by
 intro r' h'
 cases h' with
 | last hs' _=>have:=ihs _ hs';cases this;rfl
 | more hs' hk' _=>have:=ihs _ hs';cases this;exact absurd hk' hk
 | err hs'=>have:=ihs _ hs';cases this
 | later hs' hk' _=>have:=ihs _ hs';cases this;exact absurd hk' hk
theorem Ut {d:Nat} {ts:List Tok} {s:Seq} {rest:List Tok} {c:Z5} {rest':List Tok} (hs:ZW d ts (.ok s rest)) (hk:(hd rest).kind = .sign 47) (hc:Z8 d rest.tail (.ok c rest')) (ihs:J2 d ts (.ok s rest)) (ihc:Je d rest.tail (.ok c rest')):Je d ts (.ok (s::c) rest'):=by
 intro r' h'
 cases h' with
 | last hs' hk'=>have:=ihs _ hs';cases this;exact absurd hk hk'
 | more hs' _ hc'=>have:=ihs _ hs';cases this;have:=ihc _ hc';cases this;rfl
 | err hs'=>have:=ihs _ hs';cases this
 | later hs' _ hc'=>have:=ihs _ hs';cases this;have:=ihc _ hc';cases this
theorem Uq {d:Nat} {ts:List Tok} {e p:Nat} (hs:ZW d ts (.err e p)) (ihs:J2 d ts (.err e p)):Je d ts (.err e p):=by
 intro r' h'
 cases h' with
 | last hs' _=>have:=ihs _ hs';cases this
 | more hs' _ _=>have:=ihs _ hs';cases this
 | err hs'=>have:=ihs _ hs';cases this;rfl
 | later hs' _ _=>have:=ihs _ hs';cases this
theorem Us {d:Nat} {ts:List Tok} {s:Seq} {rest:List Tok} {e p:Nat} (hs:ZW d ts (.ok s rest)) (hk:(hd rest).kind = .sign 47) (hc:Z8 d rest.tail (.err e p)) (ihs:J2 d ts (.ok s rest)) (ihc:Je d rest.tail (.err e p)):Je d ts (.err e p):=by
 intro r' h'
 cases h' with
 | last hs' hk'=>have:=ihs _ hs';cases this;exact absurd hk hk'
 | more hs' _ hc'=>have:=ihs _ hs';cases this;have:=ihc _ hc';cases this
 | err hs'=>have:=ihs _ hs';cases this
 | later hs' _ hc'=>have:=ihs _ hs';cases this;have:=ihc _ hc';cases this;rfl
theorem Qi.det {d:Nat} {ts:List Tok} {r r':Res zC} (h:Qi d ts r) (h':Qi d ts r'):r=r':=by
 refine (Qi.rec (motive_1:=fun d ts r _=>Js d ts r) (motive_2:=fun d ts r _=>Yc d ts r) (motive_3:=fun d ts r _=>J2 d ts r) (motive_4:=fun d ts r _=>Je d ts r) ?_ ?_ ?_ ?_ ?_ ?_ ?_ ?_ ?_ ?_ ?_ ?_ ?_ ?_ ?_ ?_ h:Js d ts r) _ h'
 ·intros;apply Uy<;>assumption
 ·intros;apply Uu<;>assumption
 ·intros;apply Uv<;>assumption
 ·intros;apply Uw<;>assumption
 ·intros;apply Uz<;>assumption
 ·intros;apply Ux<;>assumption
 ·intros;apply UF<;>assumption
 ·intros;apply UE<;>assumption
 ·intros;apply UD<;>assumption
 ·intros;apply UA<;>assumption
 ·intros;apply UB<;>assumption
 ·intros;apply UC<;>assumption
 ·intros;apply Ur<;>assumption
 ·intros;apply Ut<;>assumption
 ·intros;apply Uq<;>assumption
 ·intros;apply Us<;>assumption
theorem QF.det {d:Nat} {ts:List Tok} {r r':Res Term} (h:QF d ts r) (h':QF d ts r'):r=r':=by
 refine (QF.rec (motive_1:=fun d ts r _=>Js d ts r) (motive_2:=fun d ts r _=>Yc d ts r) (motive_3:=fun d ts r _=>J2 d ts r) (motive_4:=fun d ts r _=>Je d ts r) ?_ ?_ ?_ ?_ ?_ ?_ ?_ ?_ ?_ ?_ ?_ ?_ ?_ ?_ ?_ ?_ h:Yc d ts r) _ h'
 ·intros;apply Uy<;>assumption
 ·intros;apply Uu<;>assumption
 ·intros;apply Uv<;>assumption
 ·intros;apply Uw<;>assumption
 ·intros;apply Uz<;>assumption
 ·intros;apply Ux<;>assumption
 ·intros;apply UF<;>assumption
 ·intros;apply UE<;>assumption
 ·intros;apply UD<;>assumption
 ·intros;apply UA<;>assumption
 ·intros;apply UB<;>assumption
 ·intros;apply UC<;>assumption
 ·intros;apply Ur<;>assumption
 ·intros;apply Ut<;>assumption
 ·intros;apply Uq<;>assumption
 ·intros;apply Us<;>assumption
theorem ZW.det {d:Nat} {ts:List Tok} {r r':Res Seq} (h:ZW d ts r) (h':ZW d ts r'):r=r':=by
 refine (ZW.rec (motive_1:=fun d ts r _=>Js d ts r) (motive_2:=fun d ts r _=>Yc d ts r) (motive_3:=fun d ts r _=>J2 d ts r) (motive_4:=fun d ts r _=>Je d ts r) ?_ ?_ ?_ ?_ ?_ ?_ ?_ ?_ ?_ ?_ ?_ ?_ ?_ ?_ ?_ ?_ h:J2 d ts r) _ h'
 ·intros;apply Uy<;>assumption
 ·intros;apply Uu<;>assumption
 ·intros;apply Uv<;>assumption
 ·intros;apply Uw<;>assumption
 ·intros;apply Uz<;>assumption
 ·intros;apply Ux<;>assumption
 ·intros;apply UF<;>assumption
 ·intros;apply UE<;>assumption
 ·intros;apply UD<;>assumption
 ·intros;apply UA<;>assumption
 ·intros;apply UB<;>assumption
 ·intros;apply UC<;>assumption
 ·intros;apply Ur<;>assumption
 ·intros;apply Ut<;>assumption
 ·intros;apply Uq<;>assumption
 ·intros;apply Us<;>assumption
theorem Z8.det {d:Nat} {ts:List Tok} {r r':Res Z5} (h:Z8 d ts r) (h':Z8 d ts r'):r=r':=by
 refine (Z8.rec (motive_1:=fun d ts r _=>Js d ts r) (motive_2:=fun d ts r _=>Yc d ts r) (motive_3:=fun d ts r _=>J2 d ts r) (motive_4:=fun d ts r _=>Je d ts r) ?_ ?_ ?_ ?_ ?_ ?_ ?_ ?_ ?_ ?_ ?_ ?_ ?_ ?_ ?_ ?_ h:Je d ts r) _ h'
 ·intros;apply Uy<;>assumption
 ·intros;apply Uu<;>assumption
 ·intros;apply Uv<;>assumption
 ·intros;apply Uw<;>assumption
 ·intros;apply Uz<;>assumption
 ·intros;apply Ux<;>assumption
 ·intros;apply UF<;>assumption
 ·intros;apply UE<;>assumption
 ·intros;apply UD<;>assumption
 ·intros;apply UA<;>assumption
 ·intros;apply UB<;>assumption
 ·intros;apply UC<;>assumption
 ·intros;apply Ur<;>assumption
 ·intros;apply Ut<;>assumption
 ·intros;apply Uq<;>assumption
 ·intros;apply Us<;>assumption
theorem ZV.det {n:Nat} {ts:List Tok} {r r':Res ze} (h:ZV n ts r) (h':ZV n ts r'):r=r':=by
 cases h with
 | noName hk=>cases h'<;>first | rfl | contradiction
 | many hk ha=>cases h'<;>first | rfl | contradiction
 | noArrow hk ha=>cases h'<;>first | rfl | contradiction
 | ok hk ha hn hc=>
  cases h' with
  | noName hk'=>exact absurd hk hk'
  | many _ _=>exact absurd rfl hn
  | noArrow _ ha'=>exact absurd ha ha'
  | ok _ _ _ hc'=>have:=hc.det hc';cases this;rfl
  | err _ _ _ hc'=>have:=hc.det hc';cases this
 | err hk ha hn hc=>
  cases h' with
  | noName hk'=>exact absurd hk hk'
  | many _ _=>exact absurd rfl hn
  | noArrow _ ha'=>exact absurd ha ha'
  | ok _ _ _ hc'=>have:=hc.det hc';cases this
  | err _ _ _ hc'=>have:=hc.det hc';cases this;rfl
theorem ZU.det {n:Nat} {ts:List Tok} {r:Except (Nat × Nat) (List ze)} (h:ZU n ts r):∀ {r'},ZU n ts r'→r=r':=by
 induction h with
 | last hr hk=>
  intro r' h'
  cases h' with
  | last hr' _=>have:=hr.det hr';cases this;rfl
  | more hr' hk' _=>have:=hr.det hr';cases this;exact absurd hk hk'
  | err hr'=>have:=hr.det hr';cases this
  | later hr' hk' _=>have:=hr.det hr';cases this;exact absurd hk hk'
 | more hr hk _ ih=>
  intro r' h'
  cases h' with
  | last hr' hk'=>have:=hr.det hr';cases this;exact absurd hk' hk
  | more hr' _ hg'=>have:=hr.det hr';cases this;have:=ih hg';cases this;rfl
  | err hr'=>have:=hr.det hr';cases this
  | later hr' _ hg'=>have:=hr.det hr';cases this;have:=ih hg';cases this
 | err hr=>
  intro r' h'
  cases h' with
  | last hr' _=>have:=hr.det hr';cases this
  | more hr' _ _=>have:=hr.det hr';cases this
  | err hr'=>have:=hr.det hr';cases this;rfl
  | later hr' _ _=>have:=hr.det hr';cases this
 | later hr hk _ ih=>
  intro r' h'
  cases h' with
  | last hr' hk'=>have:=hr.det hr';cases this;exact absurd hk' hk
  | more hr' _ hg'=>have:=hr.det hr';cases this;have:=ih hg';cases this
  | err hr'=>have:=hr.det hr';cases this
  | later hr' _ hg'=>have:=hr.det hr';cases this;have:=ih hg';cases this;rfl
end Thk
