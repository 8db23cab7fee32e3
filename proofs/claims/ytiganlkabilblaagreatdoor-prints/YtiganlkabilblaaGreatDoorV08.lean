import Derived.Test.YtiganlkabilblaaGreatDoorV07
set_option linter.all false
set_option maxHeartbeats 64000000
set_option maxRecDepth 100000
namespace Go.Proofs.YtiganlkabilblaaGreatDoor
open Tryz
open Tryz renaming prog->P
open Option renaming some->S,none->N
open Value renaming int->I
open IntKind renaming i64->J
section
open Go.RowKit Go.Extern.Stop Go.Stop Go.Extern
theorem isNilRun(a:Addr)(W:World):(ReflectliteValue.method (ReflectliteValue.valueError "reflectlite.Value.IsNil" 0) ReflectliteValue.isNil #[.agg #[.pointer (S ⟨2,130,N⟩),.pointer (S a),.int .u64 150]]).run P W=(ReflectliteValue.isNil 130 a 150 22).run P W:=by kernel_rfl
theorem isNilP(a p:Addr)(W:World)(b:W.cell? a=S (.pointer (S p))):(ReflectliteValue.method (ReflectliteValue.valueError "reflectlite.Value.IsNil" 0) ReflectliteValue.isNil #[.agg #[.pointer (S ⟨2,130,N⟩),.pointer (S a),.int .u64 150]]).run P W=.ok (.bool false) W:=by rw[isNilRun];simp[ReflectliteValue.isNil,loadVar,isAgg,underlying,underlying130,b,Result.andThen]
theorem elemRun(a:Addr)(W:World):(ReflectliteValue.method (ReflectliteValue.valueError "reflectlite.Value.Elem" 0) ReflectliteValue.elem #[.agg #[.pointer (S ⟨2,130,N⟩),.pointer (S a),.int .u64 150]]).run P W=(ReflectliteValue.elem 130 a 150 22).run P W:=by kernel_rfl
theorem elemVP(a p:Addr)(W:World)(b:W.cell? a=S (.pointer (S p))):(ReflectliteValue.method (ReflectliteValue.valueError "reflectlite.Value.Elem" 0) ReflectliteValue.elem #[.agg #[.pointer (S ⟨2,130,N⟩),.pointer (S a),.int .u64 150]]).run P W=.ok (.agg #[.pointer (S ⟨2,128,N⟩),.pointer (S p),.int .u64 409]) W:=by rw[elemRun];simp[ReflectliteValue.elem,loadVar,isAgg,underlying,underlying130,b,Result.andThen,elemOfP,mkF]
theorem setRun(a b:Addr)(W:World):(ReflectliteValue.set #[.agg #[.pointer (S ⟨2,128,N⟩),.pointer (S a),.int .u64 409],.agg #[.pointer (S ⟨2,128,N⟩),.pointer (S b),.int .u64 153]]).run P W=(loadVar 128 b>>= λv=>storeVar 128 a v>>= λ_=>pure (.tuple #[])).run P W:=by kernel_rfl
theorem setF(a b:Nat)(x y k f:Int)(W:World)(e:W.heap[b]?=S (.cells #[I J x,I J y] 128 (0,0)))(c:W.heap[a]?=S (.cells #[I J k,I J f] 128 (0,0))):(ReflectliteValue.set #[.agg #[.pointer (S ⟨2,128,N⟩),.pointer (S ⟨a,0,N⟩),.int .u64 409],.agg #[.pointer (S ⟨2,128,N⟩),.pointer (S ⟨b,0,N⟩),.int .u64 153]]).run P W=.ok (.tuple #[]) ((W.setCell ⟨a,0,N⟩ (I J x)).setCell ⟨a,1,N⟩ (I J y)):=by
 have g:=z8 e 0;have h:=z8 e 1;have l:=z8 c 0;have i:=zi c 0;have d:=zo (o:=0) c (I J x);have m:(W.setCell ⟨a,0,N⟩ (I J x)).cell? ⟨a,1,N⟩=S (I J f):=by rw[z8 d];rfl
 have j:=zi d 1;rw[setRun];simp only[Sem.run_bind];simp[loadVar,isAggF,sizeF,Result.andThen,go_sem,g,h,l,i,m,j]
theorem methodKind(h:Value)(w:World):(Go.method 476 259 (.agg #[h]) "Kind").run P w=.ok (237,h) w:=by kernel_rfl
theorem methodElem(h:Value)(w:World):(Go.method 476 259 (.agg #[h]) "Elem").run P w=.ok (249,.agg #[h]) w:=by kernel_rfl
theorem methodImpl(h:Value)(w:World):(Go.method 476 259 (.agg #[h]) "Implements").run P w=.ok (250,.agg #[h]) w:=by kernel_rfl
theorem methodAssign(h:Value)(w:World):(Go.method 476 259 (.agg #[h]) "AssignableTo").run P w=.ok (247,.agg #[h]) w:=by kernel_rfl
abbrev V3(a:Addr):Obj:=.cells #[.pointer (S ⟨2,130,N⟩),.pointer (S a),.int .u64 150] 192
abbrev UT(a:Nat):Obj:=.cells #[.pointer (S ⟨a,0,N⟩)] 130
abbrev ztH(x y:Int):Obj:=.cells #[I J x,I J y] 128
theorem zdO(x y d e:Int)(b:Nat)(w:World)(i:w.cell? ⟨0,0,N⟩=S (.iface 259 (.agg #[.pointer (S ⟨2,78,N⟩)])))(j:w.heap[b]?=S (.cells #[I J d,I J e] 128 (0,0))):Calls P 63 #[.iface 128 (.agg #[I J x,I J y]),.iface 130 (.pointer (S ⟨b,0,N⟩))] w λm k=>m=.returned (.bool true)/\k.heap[b]?=S (.cells #[I J x,I J y] 128 (0,0))/\Kp b w.heap.size w k:=by
 have v:=@run_callFunc_extern P 93 _ (λl=>ReflectliteValue.unpack (l.getD 0 (.tuple #[]))) func93 (by kernel_rfl) (by kernel_rfl) (by kernel_rfl) (by kernel_rfl);have z:=@run_callFunc_extern P 94 _ (ReflectliteValue.methodAny (ReflectliteValue.valueError "reflectlite.Value.Type" 0) (λt _ _ _=>ReflectliteType.toType t)) func94 (by kernel_rfl) (by kernel_rfl) (by kernel_rfl) (by kernel_rfl);have A:=@run_callFunc_extern P 95 _ (ReflectliteValue.method (ReflectliteValue.valueError "reflectlite.Value.IsNil" 0) ReflectliteValue.isNil) func95 (by kernel_rfl) (by kernel_rfl) (by kernel_rfl) (by kernel_rfl);have L:=@run_callFunc_extern P 237 _ (ReflectliteType.abiMethod λt=>(λa:Nat=>Value.int IntKind.u8 (a:Int))<$>Rtype.kind t) func237 (by kernel_rfl) (by kernel_rfl) (by kernel_rfl) (by kernel_rfl);have E:=@run_callFunc_extern P 249 _ (ReflectliteType.method ReflectliteType.elem) func249 (by kernel_rfl) (by kernel_rfl) (by kernel_rfl) (by kernel_rfl);have K:=@run_callFunc_extern P 250 _ (ReflectliteType.relation "Implements" ReflectliteType.implements_) func250 (by kernel_rfl) (by kernel_rfl) (by kernel_rfl) (by kernel_rfl);have O:=@run_callFunc_extern P 133 _ ReflectliteType.typeOf func133 (by kernel_rfl) (by kernel_rfl) (by kernel_rfl) (by kernel_rfl);have D:=@run_callFunc_extern P 247 _ (ReflectliteType.relation "AssignableTo" ReflectliteType.assignableTo) func247 (by kernel_rfl) (by kernel_rfl) (by kernel_rfl) (by kernel_rfl);have F:=@run_callFunc_extern P 134 _ (ReflectliteValue.method (ReflectliteValue.valueError "reflectlite.Value.Elem" 0) ReflectliteValue.elem) func134 (by kernel_rfl) (by kernel_rfl) (by kernel_rfl) (by kernel_rfl);have M:=@run_callFunc_extern P 135 _ ReflectliteValue.set func135 (by kernel_rfl) (by kernel_rfl) (by kernel_rfl) (by kernel_rfl);have s:=valueOfP;have u:=typeP;have mK:=methodKind;have Y:=methodElem;have Z:=methodImpl;have W:=methodAssign;have U:=kindP;have V:=kindF;have q:=elemP;have R:=implF;have t1:=typeOfF;have p:=assignF;have v1:=valueOfF;have n:=zd j;have H:0<w.heap.size:=by
  rcases Nat.lt_or_ge 0 w.heap.size with h|h;·exact h
  ·simp[World.cell?,Array.getElem?_eq_none h]at i
 have n8:=isNilP ⟨w.heap.size,0,N⟩ ⟨b,0,N⟩ ((w.alloc (UT b)).alloc (V3 ⟨w.heap.size,0,N⟩)) (by rw[World.cell?_alloc_lt _ _ _ (by simp)];simp);have G:((w.alloc (UT b)).alloc (V3 ⟨w.heap.size,0,N⟩)).cell? ⟨0,0,N⟩=S (.iface 259 (.agg #[.pointer (S ⟨2,78,N⟩)])):=by rw[World.cell?_alloc_lt _ _ _ (by simp only[World.size_alloc];omega),World.cell?_alloc_lt _ _ _ (by simp only[];omega)];exact i
 have r:=elemVP ⟨w.heap.size,0,N⟩ ⟨b,0,N⟩ (((w.alloc (UT b)).alloc (V3 ⟨w.heap.size,0,N⟩)).alloc (V3 ⟨w.heap.size,0,N⟩)) (by rw[World.cell?_alloc_lt _ _ _ (by simp;omega),World.cell?_alloc_lt _ _ _ (by simp)];simp);obtain⟨X,c⟩:∃X,X=(((w.alloc (UT b)).alloc (V3 ⟨w.heap.size,0,N⟩)).alloc (V3 ⟨w.heap.size,0,N⟩)).alloc (ztH x y):=⟨_,rfl⟩;have B:X.heap.size=w.heap.size+4:=by rw[c];simp
 have f:Below w.heap.size w X:=by rw[c];exact(((zc _ _).alloc (by simp) _).alloc (by simp;omega) _).alloc (by simp;omega) _
 have g:X.heap[b]?=S (.cells #[I J d,I J e] 128 (0,0)):=by rw[f.block _ n];exact j
 have o:=setF b (w.heap.size+1+1+1) x y d e X (by rw[c];exact Ji _ _ _ (by simp)) g;rw[c]at o;go_enter func63,ntmps63;go_wp2;refine wp_loop_rounds 1 ?_;rw[rounds_succ];go_wp2;go_ret;rw[<-c];refine⟨rfl,?_,((Kp.of f).setRb _ _).setRb _ _⟩;rw[zo (zo g _)];rfl
end
section
open Go.RowKit
def QD(w:World):Prop:=w.cell? ⟨0,0,N⟩=S (.iface 259 (.agg #[.pointer (S ⟨2,78,N⟩)]))
theorem QD.lt{w:World}(h:QD w):0<w.heap.size:=by
 rcases Nat.lt_or_ge 0 w.heap.size with a|a;·exact a
 ·unfold QD at h;simp[World.cell?,Array.getElem?_eq_none a]at h
theorem QD.below{w w':World}(h:QD w)(a:Below w.heap.size w w'):QD w':=by have:=a.cell (p:=⟨0,0,N⟩) h.lt;unfold QD at h|-;rw[this];exact h
theorem zjg(w:World):Calls P 38 #[.nilIface] w λe a=>e=.returned (.tuple #[I J 0,I J 0])/\Below w.heap.size w a:=by go_enter func38,ntmps38;go_wp2_with(first|(go_at_call 63;refine(zdP _ _).mono ?_;rintro e a⟨rfl,rfl⟩));go_ret2;exact⟨rfl,zc _ _⟩
theorem zjf(a p:Nat)(w:World)(d:QD w):Calls P 38 #[zS a p] w λe i=>e=.returned (.tuple #[I J a,I J p])/\Below w.heap.size w i:=by have c:Below w.heap.size w (w.alloc (.cells #[I J 0,I J 0] 128)):=zc _ _;have m:=d.lt;have g:=zdO a p 0 0 w.heap.size (w.alloc (.cells #[I J 0,I J 0] 128)) (d.below c) (zk _ _);simp only[zS];clear d;go_enter func38,ntmps38;go_wp2_with fail;refine g.mono ?_;rintro e j⟨rfl,b,f⟩;have k:=z8 b 0;have l:=z8 b 1;have h:Hid (Below w.heap.size w j):=c.trans (Kp.below (f.mono (by simp)) (Nat.le_refl _));clear g f b c;go_wp2_with fail;go_quiet(fail);go_wp2_with fail;go_ret2;exact⟨rfl,below_drewN h.out _⟩
inductive Zo(l:List UInt8):Except (Nat×Nat) (List ze×List Bool)->Prop
 |text {x}:Zs l (.error x)->Zo l (.error x)
 |rules {g x}:Zs l (.ok g)->Qh g (.error x)->Zo l (.error x)
 |ok {g E}:Zs l (.ok g)->Qh g (.ok E)->Zo l (.ok (g,E))
def zdo(l:List UInt8)(w:World)(e:Ending)(b:World):Prop:=∃h,Zo l h/\Below w.heap.size w b/\match h with| .ok (g,E)=>g≠[]/\g.length<=20/\∃a c f d,e=.returned (.tuple #[.slice (S a) g.length c,zI f d g.length,.nilIface])/\Zj b (w.heap.size<= ·) g (.slice (S a) g.length c)/\zQ b f d (zg g) E| .error (i,p)=>e=.returned (.tuple #[.slice N 0 0,K3,zS i p])
theorem zhC(s:ByteArray)(w:World)(hs:s.size<=maxLen):Calls P 37 #[.string s] w λe w'=>zdo s.data.toList w e w':=by
 have Y:=zhD s (w.alloc JY) hs;go_enter func37,ntmps37;go_wp2_with fail;refine Y.mono ?_;rintro e n⟨a0,L,h,B⟩;have a9:=h.size;simp at a9;have t:n.heap[w.heap.size]?=S JY:=by rw[h.block _ (by simp)];exact zk _ _
 have Z:=z8 t;have f1:=zi t;have W:w.heap.size<n.heap.size:=by omega
 have H:Hid (Below w.heap.size w n):=(zc _ _).trans (h.mono (by simp));have z:Hid (Zs s.data.toList a0):=L;have a3:Hid (n.heap[w.heap.size]?=S JY):=t;clear Y L t;cases a0 with
 |error x=>obtain⟨o,p⟩:=x;simp only[zS]at B;subst B;clear h;go_wp2_with fail;refine bodyPost_ret (v:=.tuple #[.slice N 0 0,K3,zS o p]) (by simp[results,results37,go_sem,zS,Z,W]) rfl ?_;exact⟨.error (o,p),.text z.out,(H.out.setCell (Nat.le_refl _) _).setCell (Nat.le_refl _) _,rfl⟩
 |ok g=>
  obtain⟨R,U,a,k,rfl,G⟩:=B;have V:=zfY n _ g a k G U R;have HG:Hid (Zj n ((w.alloc JY).heap.size<= ·) g (.slice (S a) g.length k)):=G;clear G h;go_wp2_with fail;refine V.mono ?_;rintro e f⟨a1,M,q,F⟩;have aa:=q.size;have y:f.heap[w.heap.size]?=S JY:=by rw[q.block _ W];exact a3.out
  have q2:=z8 y;have f2:=zi y;have X:w.heap.size<f.heap.size:=by omega
  have J:Hid (Below w.heap.size w f):=H.out.trans (q.mono (by omega));have K:Hid (Qh g a1):=M;have a2:Hid (Zj f ((w.alloc JY).heap.size<= ·) g (.slice (S a) g.length k)):=HG.out.kept (ZF q);have A:Hid (f.heap[w.heap.size]?=S JY):=y;clear V M q y Z f1;cases a1 with
  |error x=>obtain⟨o,p⟩:=x;simp only[zS]at F;subst F;go_wp2_with fail;refine bodyPost_ret (v:=.tuple #[.slice N 0 0,K3,zS o p]) (by simp[results,results37,go_sem,zS,q2,X]) rfl ?_;exact⟨.error (o,p),.rules z.out K.out,((J.out.setCell (Nat.le_refl _) _).setCell (Nat.le_refl _) _).alloc (by simp;omega) _,rfl⟩
  |ok E=>
   obtain⟨j,i,rfl,hF⟩:=F;have HF:Hid (zQ f j i (zg g) E):=hF;have a7:=hF.map.lt;have a5:=zd hF.emp;have a8:j≠w.heap.size:=by intro e;obtain⟨D,⟨es,cl,c,_⟩,_⟩:=hF.map;rw[e,A.out]at c;simp at c
   have a6:i≠w.heap.size:=by intro e;have c:=hF.emp;rw[e,A.out]at c;simp[zH]at c
   simp only[zI];clear hF;go_wp2_with fail;go_region;all_goals go_wp2_with fail
   refine bodyPost_ret (v:=.tuple #[.slice (S a) g.length k,zI j i g.length,.nilIface]) (by simp[results,results37,go_sem,zI,q2,X]) rfl ?_;have r:∀O u1 u2 d,d≠w.heap.size->d<f.heap.size->(((f.setCell ⟨w.heap.size,0,N⟩ u1).setCell ⟨w.heap.size,1,N⟩ u2).alloc O).drew.heap[d]?=f.heap[d]?:=by intro O u1 u2 d c m;show(((f.setCell ⟨w.heap.size,0,N⟩ u1).setCell ⟨w.heap.size,1,N⟩ u2).alloc O).heap[d]?=_;rw[zm _ _ (by simp;omega),Below.heap_setCell _ _ _ _ c,Below.heap_setCell _ _ _ _ c]
   refine⟨.ok (g,E),.ok z.out K.out,(((J.out.setCell (Nat.le_refl _) _).setCell (Nat.le_refl _) _).alloc (by simp;omega) _).drew,R,U,a,k,j,i,rfl,?_,?_⟩;·have a4:Zj (((f.setCell ⟨w.heap.size,0,N⟩ (.map (S j))).setCell ⟨w.heap.size,1,N⟩ (.slice (S ⟨i,0,N⟩) g.length g.length)).alloc (ZB j i g.length)).drew ((w.alloc JY).heap.size<= ·) g (.slice (S a) g.length k):=a2.out.kept ⟨λu l hl=>VL (b:=w.heap.size) hl (λd c m=>r _ _ _ d c m) A.out (by decide),λd c m=>r _ _ _ d (by simp at m;omega) c⟩;obtain⟨vs,c,m⟩:=a4;exact⟨vs,c.mono (λd _ h=>by simp at h;omega),zW.mono (λd _ h=>by simp at h;omega) m⟩
   ·exact HF.out.blocks (r _ _ _ j a8 a7) (r _ _ _ i a6 a5)
def zlY(l:List UInt8)(w:World)(e:Ending)(c:World):Prop:=Below w.heap.size w c/\∃a,Zo l a/\match a with| .ok _=>e=.returned (.tuple #[I J 0,I J 0])| .error (b,p)=>e=.returned (.tuple #[I J b,I J p])
theorem zm6(s:ByteArray)(w:World)(v:s.size<=maxLen)(q:QD w):Calls P 14 #[.string s] w λe z=>zlY s.data.toList w e z:=by
 have r:=zhC s w v;have u:Hid (QD w):=q;clear q;go_enter func14,ntmps14;go_wp2_with fail;refine r.mono ?_;rintro e k⟨t,o,i,h⟩;have d:Hid (Below w.heap.size w k):=i;have j:=i.size;have m:Hid (Zo s.data.toList t):=o;clear r o i;cases t with
 |error x=>obtain⟨n,p⟩:=x;have b:=λO=>zjf n p (k.alloc O) (u.out.below (d.out.alloc j O));simp only[zS]at h b;subst h;go_wp2_with fail;refine(b _).mono ?_;rintro e l⟨rfl,c⟩;have f:Hid (Below w.heap.size w l):=(d.out.alloc j _).trans (c.mono (by simp;omega));clear b c;go_wp2_with fail;go_ret2;exact⟨f.out,.error (n,p),m.out,rfl⟩
 |ok y=>obtain⟨g,E⟩:=y;obtain⟨_,_,a,A,D,B,rfl,_,_⟩:=h;have b:=λO=>zjg (k.alloc O);simp only[zI];go_wp2_with fail;refine(b _).mono ?_;rintro e l⟨rfl,c⟩;have f:Hid (Below w.heap.size w l):=(d.out.alloc j _).trans (c.mono (by simp;omega));clear b c;go_wp2_with fail;go_ret2;exact⟨f.out,.ok (g,E),m.out,rfl⟩
end
end Go.Proofs.YtiganlkabilblaaGreatDoor
