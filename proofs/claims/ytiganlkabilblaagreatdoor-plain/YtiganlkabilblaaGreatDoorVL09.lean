import Derived.Test.YtiganlkabilblaaGreatDoorVL08
set_option linter.all false
set_option maxHeartbeats 64000000
set_option maxRecDepth 100000
namespace Go.Proofs.YtiganlkabilblaaGreatDoor
open Go.RowKit Go.Extern.Stop Go.Stop Go.Extern
theorem Tryz.isNilRun (a:Addr) (W:World):(ReflectliteValue.method (ReflectliteValue.valueError "reflectlite.Value.IsNil" 0) ReflectliteValue.isNil #[.agg #[.pointer (some ⟨2,130,none⟩),.pointer (some a),.int .u64 150]]).run Tryz.prog W
  = (ReflectliteValue.isNil 130 a 150 22).run Tryz.prog W:=by kernel_rfl
theorem Tryz.isNilP (a p:Addr) (W:World) (ha:W.cell? a=some (.pointer (some p))) :
  (ReflectliteValue.method (ReflectliteValue.valueError "reflectlite.Value.IsNil" 0) ReflectliteValue.isNil #[.agg #[.pointer (some ⟨2,130,none⟩),.pointer (some a),.int .u64 150]]).run Tryz.prog W = .ok (.bool false) W:=by
 rw[Tryz.isNilRun]
 simp[ReflectliteValue.isNil,loadVar,isAgg,underlying,Tryz.underlying130,ha,Result.andThen]
theorem Tryz.elemRun (a:Addr) (W:World):(ReflectliteValue.method (ReflectliteValue.valueError "reflectlite.Value.Elem" 0) ReflectliteValue.elem #[.agg #[.pointer (some ⟨2,130,none⟩),.pointer (some a),.int .u64 150]]).run Tryz.prog W
  = (ReflectliteValue.elem 130 a 150 22).run Tryz.prog W:=by kernel_rfl
theorem Tryz.elemVP (a p:Addr) (W:World) (ha:W.cell? a=some (.pointer (some p))) :
  (ReflectliteValue.method (ReflectliteValue.valueError "reflectlite.Value.Elem" 0) ReflectliteValue.elem #[.agg #[.pointer (some ⟨2,130,none⟩),.pointer (some a),.int .u64 150]]).run Tryz.prog W
   = .ok (.agg #[.pointer (some ⟨2,128,none⟩),.pointer (some p),.int .u64 409]) W:=by
 rw[Tryz.elemRun]
 simp[ReflectliteValue.elem,loadVar,isAgg,underlying,Tryz.underlying130,ha,Result.andThen,Tryz.elemOfP,Tryz.mkF]
theorem Tryz.setRun (ta b:Addr) (W:World):(ReflectliteValue.set #[.agg #[.pointer (some ⟨2,128,none⟩),.pointer (some ta),.int .u64 409],.agg #[.pointer (some ⟨2,128,none⟩),.pointer (some b),.int .u64 153]]).run Tryz.prog W
  = (loadVar 128 b >>= fun v=>storeVar 128 ta v >>= fun _=>pure (.tuple #[])).run Tryz.prog W:=by kernel_rfl
theorem Tryz.setF (tb b:Nat) (x y o1 o2:Int) (W:World) (hb:W.heap[b]? = some (.cells #[.int .i64 x,.int .i64 y] 128 (0,0))) (ht:W.heap[tb]? = some (.cells #[.int .i64 o1,.int .i64 o2] 128 (0,0))) :
  (ReflectliteValue.set #[.agg #[.pointer (some ⟨2,128,none⟩),.pointer (some ⟨tb,0,none⟩),.int .u64 409],.agg #[.pointer (some ⟨2,128,none⟩),.pointer (some ⟨b,0,none⟩),.int .u64 153]]).run Tryz.prog W
   = .ok (.tuple #[]) ((W.setCell ⟨tb,0,none⟩ (.int .i64 x)).setCell ⟨tb,1,none⟩ (.int .i64 y)):=by
 have c0:=z8 hb 0
 have c1:=z8 hb 1
 have t0:=z8 ht 0
 have f0:=zi ht 0
 have h1:=zo (o:=0) ht (.int .i64 x)
 have t1:(W.setCell ⟨tb,0,none⟩ (.int .i64 x)).cell? ⟨tb,1,none⟩=some (.int .i64 o2):=by rw[z8 h1];rfl
 have f1:=zi h1 1
 rw[Tryz.setRun]
 simp only[Sem.run_bind]
 simp[loadVar,Tryz.isAggF,Tryz.sizeF,Result.andThen,go_sem,c0,c1,t0,f0,t1,f1]
theorem Tryz.methodKind (h:Value) (w:World):(Go.method 476 259 (.agg #[h]) "Kind").run Tryz.prog w = .ok (237,h) w:=by kernel_rfl
theorem Tryz.methodElem (h:Value) (w:World):(Go.method 476 259 (.agg #[h]) "Elem").run Tryz.prog w = .ok (249,.agg #[h]) w:=by kernel_rfl
theorem Tryz.methodImpl (h:Value) (w:World):(Go.method 476 259 (.agg #[h]) "Implements").run Tryz.prog w = .ok (250,.agg #[h]) w:=by kernel_rfl
theorem Tryz.methodAssign (h:Value) (w:World):(Go.method 476 259 (.agg #[h]) "AssignableTo").run Tryz.prog w = .ok (247,.agg #[h]) w:=by kernel_rfl
abbrev V3 (a:Addr):Obj:=.cells #[.pointer (some ⟨2,130,none⟩),.pointer (some a),.int .u64 150] 192
abbrev UT (tb:Nat):Obj:=.cells #[.pointer (some ⟨tb,0,none⟩)] 130
abbrev fltO (x y:Int):Obj:=.cells #[.int .i64 x,.int .i64 y] 128
theorem zdO (x y o1 o2:Int) (tb:Nat) (w:World) (hg:w.cell? ⟨0,0,none⟩=some (.iface 259 (.agg #[.pointer (some ⟨2,78,none⟩)])))
  (ht:w.heap[tb]? = some (.cells #[.int .i64 o1,.int .i64 o2] 128 (0,0))) :
  Calls Tryz.prog 63 #[.iface 128 (.agg #[.int .i64 x,.int .i64 y]),.iface 130 (.pointer (some ⟨tb,0,none⟩))] w fun ev w'=>ev = .returned (.bool true)∧w'.heap[tb]? = some (.cells #[.int .i64 x,.int .i64 y] 128 (0,0))∧Kp tb w.heap.size w w':=by
 have h25:=@run_callFunc_extern Tryz.prog 93 _ (fun args=>ReflectliteValue.unpack (args.getD 0 (.tuple #[]))) Tryz.func93 (by kernel_rfl) (by kernel_rfl) (by kernel_rfl) (by kernel_rfl)
 have h26:=@run_callFunc_extern Tryz.prog 94 _ (ReflectliteValue.methodAny (ReflectliteValue.valueError "reflectlite.Value.Type" 0) (fun t _ _ _=>ReflectliteType.toType t)) Tryz.func94 (by kernel_rfl) (by kernel_rfl) (by kernel_rfl) (by kernel_rfl)
 have h27:=@run_callFunc_extern Tryz.prog 95 _ (ReflectliteValue.method (ReflectliteValue.valueError "reflectlite.Value.IsNil" 0) ReflectliteValue.isNil) Tryz.func95 (by kernel_rfl) (by kernel_rfl) (by kernel_rfl) (by kernel_rfl)
 have hkd:=@run_callFunc_extern Tryz.prog 237 _ (ReflectliteType.abiMethod fun t=>(fun a:Nat=>Value.int IntKind.u8 (a:Int)) <$> Rtype.kind t) Tryz.func237 (by kernel_rfl) (by kernel_rfl) (by kernel_rfl) (by kernel_rfl)
 have hel:=@run_callFunc_extern Tryz.prog 249 _ (ReflectliteType.method ReflectliteType.elem) Tryz.func249 (by kernel_rfl) (by kernel_rfl) (by kernel_rfl) (by kernel_rfl)
 have him:=@run_callFunc_extern Tryz.prog 250 _ (ReflectliteType.relation "Implements" ReflectliteType.implements_) Tryz.func250 (by kernel_rfl) (by kernel_rfl) (by kernel_rfl) (by kernel_rfl)
 have hto:=@run_callFunc_extern Tryz.prog 133 _ ReflectliteType.typeOf Tryz.func133 (by kernel_rfl) (by kernel_rfl) (by kernel_rfl) (by kernel_rfl)
 have has:=@run_callFunc_extern Tryz.prog 247 _ (ReflectliteType.relation "AssignableTo" ReflectliteType.assignableTo) Tryz.func247 (by kernel_rfl) (by kernel_rfl) (by kernel_rfl) (by kernel_rfl)
 have hev:=@run_callFunc_extern Tryz.prog 134 _ (ReflectliteValue.method (ReflectliteValue.valueError "reflectlite.Value.Elem" 0) ReflectliteValue.elem) Tryz.func134 (by kernel_rfl) (by kernel_rfl) (by kernel_rfl) (by kernel_rfl)
 have hst:=@run_callFunc_extern Tryz.prog 135 _ ReflectliteValue.set Tryz.func135 (by kernel_rfl) (by kernel_rfl) (by kernel_rfl) (by kernel_rfl)
 have f1:=Tryz.valueOfP
 have f2:=Tryz.typeP
 have mK:=Tryz.methodKind
 have mE:=Tryz.methodElem
 have mI:=Tryz.methodImpl
 have mA:=Tryz.methodAssign
 have k1:=Tryz.kindP
 have k2:=Tryz.kindF
 have e1:=Tryz.elemP
 have i1:=Tryz.implF
 have t1:=Tryz.typeOfF
 have a1:=Tryz.assignF
 have v1:=Tryz.valueOfF
 have htl:=zd ht
 have hgl : 0<w.heap.size:=by
  rcases Nat.lt_or_ge 0 w.heap.size with h | h
  ·exact h
  ·simp[World.cell?,Array.getElem?_eq_none h] at hg
 have n8:=Tryz.isNilP ⟨w.heap.size,0,none⟩ ⟨tb,0,none⟩ ((w.alloc (UT tb)).alloc (V3 ⟨w.heap.size,0,none⟩)) (by rw[World.cell?_alloc_lt _ _ _ (by simp)];simp)
 have hg2:((w.alloc (UT tb)).alloc (V3 ⟨w.heap.size,0,none⟩)).cell? ⟨0,0,none⟩=some (.iface 259 (.agg #[.pointer (some ⟨2,78,none⟩)])):=by
  rw[World.cell?_alloc_lt _ _ _ (by simp only[World.size_alloc];omega),World.cell?_alloc_lt _ _ _ (by simp only[];omega)];exact hg
 have el:=Tryz.elemVP ⟨w.heap.size,0,none⟩ ⟨tb,0,none⟩ (((w.alloc (UT tb)).alloc (V3 ⟨w.heap.size,0,none⟩)).alloc (V3 ⟨w.heap.size,0,none⟩)) (by rw[World.cell?_alloc_lt _ _ _ (by simp;omega),World.cell?_alloc_lt _ _ _ (by simp)];simp)
 obtain⟨X,hX⟩:∃ X,X=(((w.alloc (UT tb)).alloc (V3 ⟨w.heap.size,0,none⟩)).alloc (V3 ⟨w.heap.size,0,none⟩)).alloc (fltO x y):=⟨_,rfl⟩
 have hXsz:X.heap.size=w.heap.size+4:=by rw[hX];simp
 have hBX:Below w.heap.size w X:=by rw[hX];exact (((zc _ _).alloc (by simp) _).alloc (by simp;omega) _).alloc (by simp;omega) _
 have hXt:X.heap[tb]? = some (.cells #[.int .i64 o1,.int .i64 o2] 128 (0,0)):=by rw[hBX.block _ htl];exact ht
 have st:=Tryz.setF tb (w.heap.size+1+1+1) x y o1 o2 X (by rw[hX];exact Ji _ _ _ (by simp)) hXt
 rw[hX] at st
 go_enter Tryz.func63,Tryz.ntmps63
 go_wp2
 refine wp_loop_rounds 1 ?_
 rw[rounds_succ]
 go_wp2
 go_ret
 rw[← hX]
 refine⟨rfl,?_,((Kp.of hBX).setRb _ _).setRb _ _⟩
 rw[zo (zo hXt _)]
 rfl
end Go.Proofs.YtiganlkabilblaaGreatDoor
namespace Go.Proofs.YtiganlkabilblaaGreatDoor
open Go.RowKit
def QD (w:World):Prop:=w.cell? ⟨0,0,none⟩=some (.iface 259 (.agg #[.pointer (some ⟨2,78,none⟩)]))
theorem QD.lt {w:World} (h:QD w) : 0<w.heap.size:=by
 rcases Nat.lt_or_ge 0 w.heap.size with h' | h'
 ·exact h'
 ·unfold QD at h;simp[World.cell?,Array.getElem?_eq_none h'] at h
theorem QD.below {w w':World} (h:QD w) (hb:Below w.heap.size w w'):QD w':=by
 have:=hb.cell (p:=⟨0,0,none⟩) h.lt
 unfold QD at h ⊢;rw[this];exact h
theorem zjg (w:World):Calls Tryz.prog 38 #[.nilIface] w fun e w'=>e = .returned (.tuple #[.int .i64 0,.int .i64 0])∧Below w.heap.size w w':=by
 go_enter Tryz.func38,Tryz.ntmps38
 go_wp2_with (first | (go_at_call 63;refine (zdP _ _).mono ?_;rintro e w' ⟨rfl,rfl⟩))
 go_ret2
 exact⟨rfl,zc _ _⟩
theorem zjf (er p:Nat) (w:World) (hg:QD w):Calls Tryz.prog 38 #[zS er p] w fun e w'=>e = .returned (.tuple #[.int .i64 er,.int .i64 p])∧Below w.heap.size w w':=by
 have hB:Below w.heap.size w (w.alloc (.cells #[.int .i64 0,.int .i64 0] 128)):=zc _ _
 have hl:=hg.lt
 have ha:=zdO er p 0 0 w.heap.size (w.alloc (.cells #[.int .i64 0,.int .i64 0] 128)) (hg.below hB) (zk _ _)
 simp only[zS]
 clear hg
 go_enter Tryz.func38,Tryz.ntmps38
 go_wp2_with fail
 refine ha.mono ?_
 rintro e w1 ⟨rfl,h1,hK⟩
 have c0:=z8 h1 0
 have c1:=z8 h1 1
 have HB:Hid (Below w.heap.size w w1):=hB.trans (Kp.below (hK.mono (by simp)) (Nat.le_refl _))
 clear ha hK h1 hB
 go_wp2_with fail
 go_quiet (fail)
 go_wp2_with fail
 go_ret2
 exact⟨rfl,below_drewN HB.out _⟩
inductive Zo (l:List UInt8):Except (Nat × Nat) (List Thk.ze × List Bool)→Prop
 | text {x}:Zs l (.error x)→Zo l (.error x)
 | rules {g x}:Zs l (.ok g)→Qh g (.error x)→Zo l (.error x)
 | ok {g E}:Zs l (.ok g)→Qh g (.ok E)→Zo l (.ok (g,E))
def zdo (l:List UInt8) (w:World) (e:Ending) (w':World):Prop:=
 ∃ res,Zo l res∧Below w.heap.size w w'∧match res with
  | .ok (g,E)=>g≠[]∧g.length≤20∧∃ a cp mb eb,e = .returned (.tuple #[.slice (some a) g.length cp,zI mb eb g.length,.nilIface])∧Zj w' (w.heap.size≤·) g (.slice (some a) g.length cp)∧zQ w' mb eb (zg g) E
  | .error (er,p)=>e = .returned (.tuple #[.slice none 0 0,K3,zS er p])
theorem zhC (s:ByteArray) (w:World) (hs:s.size≤maxLen) :
  Calls Tryz.prog 37 #[.string s] w fun e w'=>zdo s.data.toList w e w':=by
 have hrd:=zhD s (w.alloc JY) hs
 go_enter Tryz.func37,Tryz.ntmps37
 go_wp2_with fail
 refine hrd.mono ?_
 rintro e w1 ⟨res,hP,hb,hE⟩
 have hs1:=hb.size
 simp at hs1
 have hr1:w1.heap[w.heap.size]? = some JY:=by rw[hb.block _ (by simp)];exact zk _ _
 have q1:=z8 hr1
 have f1:=zi hr1
 have hlt1:w.heap.size<w1.heap.size:=by omega
 have HB1:Hid (Below w.heap.size w w1):=(zc _ _).trans (hb.mono (by simp))
 have HP:Hid (Zs s.data.toList res):=hP
 have HR1:Hid (w1.heap[w.heap.size]? = some JY):=hr1
 clear hrd hP hr1
 cases res with
 | error x=>
  obtain⟨er,p⟩:=x
  simp only[zS] at hE
  subst hE
  clear hb
  go_wp2_with fail
  refine bodyPost_ret (v:=.tuple #[.slice none 0 0,K3,zS er p]) (by simp[results,Tryz.results37,go_sem,zS,q1,hlt1]) rfl ?_
  exact⟨.error (er,p),.text HP.out,(HB1.out.setCell (Nat.le_refl _) _).setCell (Nat.le_refl _) _,rfl⟩
 | ok g=>
  obtain⟨hg0,hgl,a,cp,rfl,hG⟩:=hE
  have hlk:=zfY w1 _ g a cp hG hgl hg0
  have HG:Hid (Zj w1 ((w.alloc JY).heap.size≤·) g (.slice (some a) g.length cp)):=hG
  clear hG hb
  go_wp2_with fail
  refine hlk.mono ?_
  rintro e w2 ⟨res2,hP2,hb2,hE2⟩
  have hs2:=hb2.size
  have hr2:w2.heap[w.heap.size]? = some JY:=by rw[hb2.block _ hlt1];exact HR1.out
  have q2:=z8 hr2
  have f2:=zi hr2
  have hlt2:w.heap.size<w2.heap.size:=by omega
  have HB2:Hid (Below w.heap.size w w2):=HB1.out.trans (hb2.mono (by omega))
  have HP2:Hid (Qh g res2):=hP2
  have HG2:Hid (Zj w2 ((w.alloc JY).heap.size≤·) g (.slice (some a) g.length cp)):=HG.out.kept (ZF hb2)
  have HR2:Hid (w2.heap[w.heap.size]? = some JY):=hr2
  clear hlk hP2 hb2 hr2 q1 f1
  cases res2 with
  | error x=>
   obtain⟨er,p⟩:=x
   simp only[zS] at hE2
   subst hE2
   go_wp2_with fail
   refine bodyPost_ret (v:=.tuple #[.slice none 0 0,K3,zS er p]) (by simp[results,Tryz.results37,go_sem,zS,q2,hlt2]) rfl ?_
   exact⟨.error (er,p),.rules HP.out HP2.out,((HB2.out.setCell (Nat.le_refl _) _).setCell (Nat.le_refl _) _).alloc (by simp;omega) _,rfl⟩
  | ok E=>
   obtain⟨mb,eb,rfl,hF⟩:=hE2
   have HF:Hid (zQ w2 mb eb (zg g) E):=hF
   have hml:=hF.map.lt
   have hel:=zd hF.emp
   have hmne:mb≠w.heap.size:=by
    intro e
    obtain⟨D,⟨es,cl,h1,_⟩,_⟩:=hF.map
    rw[e,HR2.out] at h1
    simp at h1
   have hene:eb≠w.heap.size:=by
    intro e
    have h1:=hF.emp
    rw[e,HR2.out] at h1
    simp[zH] at h1
   simp only[zI]
   clear hF
   go_wp2_with fail
   go_region
   all_goals go_wp2_with fail
   refine bodyPost_ret (v:=.tuple #[.slice (some a) g.length cp,zI mb eb g.length,.nilIface]) (by simp[results,Tryz.results37,go_sem,zI,q2,hlt2]) rfl ?_
   have hbl:∀ O u1 u2 b,b≠w.heap.size→b<w2.heap.size→(((w2.setCell ⟨w.heap.size,0,none⟩ u1).setCell ⟨w.heap.size,1,none⟩ u2).alloc O).drew.heap[b]? = w2.heap[b]? := by
    intro O u1 u2 b h1 h2
    show (((w2.setCell ⟨w.heap.size,0,none⟩ u1).setCell ⟨w.heap.size,1,none⟩ u2).alloc O).heap[b]? = _
    rw[zm _ _ (by simp;omega),Below.heap_setCell _ _ _ _ h1,Below.heap_setCell _ _ _ _ h1]
   refine⟨.ok (g,E),.ok HP.out HP2.out,(((HB2.out.setCell (Nat.le_refl _) _).setCell (Nat.le_refl _) _).alloc (by simp;omega) _).drew,hg0,hgl,a,cp,mb,eb,rfl,?_,?_⟩
   ·have hG3:Zj (((w2.setCell ⟨w.heap.size,0,none⟩ (.map (some mb))).setCell ⟨w.heap.size,1,none⟩ (.slice (some ⟨eb,0,none⟩) g.length g.length)).alloc (ZB mb eb g.length)).drew ((w.alloc JY).heap.size≤·) g (.slice (some a) g.length cp):=HG2.out.kept ⟨fun u l hl=>VL (b:=w.heap.size) hl (fun b h1 h2=>hbl _ _ _ b h1 h2) HR2.out (by decide),fun b h1 h2=>hbl _ _ _ b (by simp at h2;omega) h1⟩
    obtain⟨vs,h1,h2⟩:=hG3
    exact⟨vs,h1.mono (fun b _ hb=>by simp at hb;omega),zW.mono (fun b _ hb=>by simp at hb;omega) h2⟩
   ·exact HF.out.blocks (hbl _ _ _ mb hmne hml) (hbl _ _ _ eb hene hel)
end Go.Proofs.YtiganlkabilblaaGreatDoor
