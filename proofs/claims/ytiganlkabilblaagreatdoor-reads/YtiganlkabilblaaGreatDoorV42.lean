import Derived.Test.YtiganlkabilblaaGreatDoorV41
import Derived.Test.YtiganlkabilblaaGreatDoorV39
import Derived.Deep.RegionHeld
import Derived.Test.YtiganlkabilblaaGreatDoorV00
import Derived.Deep.AppendLies
set_option linter.all false
set_option maxHeartbeats 64000000
set_option maxRecDepth 100000
namespace Go.Proofs.YtiganlkabilblaaGreatDoor
open Go.RowKit Thk
attribute [local go_sem ↓] Go.wp_at_zero Go.wp_at_succ
theorem Zo.rules20 {l:List UInt8} {g:List ze} {E:List Bool} (h:Zo l (.ok (g,E))):g.length≤20:=by
 cases h with
 | ok h _=>
  obtain⟨_,S',_,hok⟩:=zcf h
  have:=hok.le
  omega
theorem Yw.both {t:List UInt8} {s:ByteArray} {B B2:Nat} {w w2:World} {v c v2 c2:Value} (h:Yw t s B w v c) (h2:Yw t s B2 w2 v2 c2):∃ (L:List Nod) (er:Int),L.length≤5000∧c = .int .i64 er∧c2 = .int .i64 er∧Y0 w B v L∧Y0 w2 B2 v2 L:=by
 obtain⟨res,hP,hE⟩:=h
 obtain⟨res2,hP2,hE2⟩:=h2
 have:=hP.det hP2
 subst this
 cases res with
 | error x=>
  obtain⟨er,p⟩:=x
  obtain⟨rfl,rfl⟩:=hE
  obtain⟨rfl,rfl⟩:=hE2
  exact⟨[],er,by simp,rfl,rfl,World.ownsRow_nil _ _ _ _,World.ownsRow_nil _ _ _ _⟩
 | ok y=>
  obtain⟨g,E⟩:=y
  simp only[] at hE hE2
  by_cases hlong : 200<s.size
  ·rw[if_pos hlong] at hE hE2
   obtain⟨rfl,rfl⟩:=hE
   obtain⟨rfl,rfl⟩:=hE2
   exact⟨[],1,by simp,rfl,rfl,World.ownsRow_nil _ _ _ _,World.ownsRow_nil _ _ _ _⟩
  ·rw[if_neg hlong] at hE hE2
   obtain⟨o,ho,rfl,h1⟩:=hE
   obtain⟨o2,ho2,rfl,h2⟩:=hE2
   have:=(ho hP.ends.pos).det _ (ho2 hP.ends.pos)
   subst this
   cases o with
   | none=>
    subst h1
    subst h2
    exact⟨[],0,by simp,rfl,rfl,World.ownsRow_nil _ _ _ _,World.ownsRow_nil _ _ _ _⟩
   | some x=>
    obtain⟨a,cp,rfl,r1⟩:=h1
    obtain⟨a2,cp2,rfl,r2⟩:=h2
    have hsm:=qj hP.ends hP.rules20 (show s.data.toList.length≤200 by show s.size≤200;omega) ho
    exact⟨K0 x,0,by simp only[K0,List.length_cons,YS];omega,rfl,rfl,r1,r2⟩
theorem Yw.pread {t:List UInt8} {s:ByteArray} {B:Nat} {w:World} {v c:Value} (h:Yw t s B w v c):∃ r,Zs t r:=by
 obtain⟨res,hP,_⟩:=h
 exact hP.pread
theorem Yw.form {t:List UInt8} {s:ByteArray} {B:Nat} {w:World} {v c:Value} (h:Yw t s B w v c):∃ a n cp er,v = .slice a n cp∧c = .int .i64 er:=by
 obtain⟨L,er,_,h1,_,h2,_⟩:=h.both h
 obtain⟨a,cp,h3⟩:=zl h2
 exact⟨a,_,cp,er,h3,h1⟩
def zaT (yb Ba m:Nat) (vp va vb:Value) (E:List Value) (w w':World):Prop:=∃ va' nb,w'.heap[yb]? = some (plO vp va' vb)∧w'.ownsRow Ba 163 1 va' (m+1) (E++[Jy nb])∧Jf (fun x=>w.heap.size≤x∧va'.ownBlock≠some x) w' nb m∧GrW w w' (fun x=>x=yb∨va.ownBlock=some x)∧(va'.ownBlock=va.ownBlock∨∃ g,va'.ownBlock=some g∧w.heap.size≤g)
theorem Jf.imp {F G:Nat→Prop} {w:World} {nb m:Nat} (h:Jf F w nb m) (hi:∀ x,F x→G x):Jf G w nb m:=by
 obtain⟨n,A,C,hn,h1,h2⟩:=h.ex
 refine⟨hi _ h.fnb,n,A,C,hn,h1,fun k i hk hi'=>?_⟩
 obtain⟨b,hF,h3⟩:=h2 k i hk hi'
 exact⟨b,hi _ hF,h3⟩
theorem BkN.trd {yb Ba m n:Nat} {vp va vb v:Value} {E olds:List Value} {w w3 w4:World} (hb:Below w.heap.size w w3) (hl:w3.ownsRow w.heap.size 60 4 v n olds) (h:BkN yb Ba m vp va vb v E w3 w4):zaT yb Ba m vp va vb E w w4:=by
 obtain⟨va',nb,h1,h2,h3,h4,h5⟩:=h
 have hz:=hb.size
 refine⟨va',nb,h1,h2,h3.imp (fun x hx=>?_),⟨h4.os.trans hb.os,h4.tape.trans hb.tape,h4.output.trans hb.output,Nat.le_trans hz h4.size,fun x hx hr=>?_⟩,?_⟩
 ·refine⟨?_,hx.2⟩
  rcases hx.1 with e | e
  ·exact (hl.lt x e).1
  ·omega
 ·rw[h4.block x (by omega) (by
   rintro (e | e | e)
   ·exact hr (.inl e)
   ·have:=(hl.lt x e).1;omega
   ·exact hr (.inr e))]
  exact hb.block x hx
 ·rcases h5 with e | ⟨g,e,hg⟩
  ·exact .inl e
  ·exact .inr ⟨g,e,by omega⟩
theorem GrW.belowOf {w w':World} {row:Nat→Prop} {B:Nat} (h:GrW w w' row) (hB:B≤w.heap.size) (hr:∀ x,row x→B≤x):Below B w w':=⟨h.os,h.tape,h.output,h.size,fun k hk=>h.block k (by omega) (fun hx=>by have:=hr k hx;omega)⟩
abbrev QK (t s:ByteArray) (b:Bool):Obj:=.cells #[.string t,.string s,.bool b] 282 (0,0)
def zdz (s:ByteArray) (w:World) (e:Ending) (w':World):Prop:=
 Below w.heap.size w w'∧∃ res,Zo s.data.toList res∧match res with
  | .error (er,_)=>er≠0∧e = .returned (.tuple #[.pointer none,.int .i64 er])
  | .ok _=>∃ cb,e = .returned (.tuple #[z9 cb,.int .i64 0])∧w'.heap[cb]? = some (QK s ⟨#[]⟩ false)∧w.heap.size≤cb
theorem zhZ (s:ByteArray) (w:World) (hs:s.size≤maxLen) (r:Except (Nat × Nat) (List Thk.ze)) (hP:Zs s.data.toList r) :
  Calls Tryz.prog 113 #[.string s] w (zdz s w):=by
 have hck:=zhv s w hs r hP
 clear hP
 go_enter Tryz.func113,Tryz.ntmps113
 go_wp2_with fail
 refine hck.mono ?_
 rintro e w1 ⟨hb,res,hP,hE⟩
 have HB:=z6 hb
 have HP:=z6 hP
 have hz:=hb.size
 clear hck hb hP
 cases res with
 | error x=>
  obtain⟨er,p⟩:=x
  have h0:=HP.out.errNe
  have h1:¬ (er:Int)=0:=by omega
  simp only[] at hE
  subst hE
  go_wp2_with fail
  go_ret2
  exact⟨HB.out,.error (er,p),HP.out,by omega,rfl⟩
 | ok y=>
  simp only[] at hE
  subst hE
  go_wp2_with fail
  go_ret2
  exact⟨HB.out.alloc hz _,.ok y,HP.out,w1.heap.size,rfl,zk _ _,hz⟩
def Kx (cb:Nat) (t s p:ByteArray) (b:Bool) (w:World) (e:Ending) (w':World):Prop:=
 if b=true then e = .returned (.int .i64 10)∧w'=w else if 200<s.size+p.size then e = .returned (.int .i64 9)∧w'=w else e = .returned (.int .i64 0)∧w'.heap[cb]? = some (QK t (s++p) false)∧KpM [cb] w.heap.size w w'
theorem zam {w:World} {cb:Nat} {t s p:ByteArray} {b:Bool} (h:w.heap[cb]? = some (QK t s b)) (hs:s.size≤200) (hp:p.size≤281474976710656) :
  Calls Tryz.prog 114 #[z9 cb,.string p] w (Kx cb t s p b w):=by
 have z0:=z8 h
 have f0:=zi h
 have l0:=za h
 have H:=z6 h
 clear h
 go_enter Tryz.func114,Tryz.ntmps114
 cases b with
 | true=>
  go_wp2_with fail
  go_ret
  exact⟨rfl,rfl⟩
 | false=>
  by_cases hlong : 200<s.size+p.size
  ·have hlong':(200:Int)<(s.size:Int)+(p.size:Int):=by omega
   go_wp2_with fail
   go_ret
   unfold Kx
   rw[if_neg (by decide),if_pos hlong]
   exact⟨rfl,rfl⟩
  ·have hlong':¬ (200:Int)<(s.size:Int)+(p.size:Int):=by omega
   go_wp2_with fail
   go_ret
   unfold Kx
   rw[if_neg (by decide),if_neg hlong]
   exact⟨rfl,zo H.out _,(KpM.refl _ _ _).set (List.mem_singleton.mpr rfl) _⟩
def Kw (cb:Nat) (t s:ByteArray) (b:Bool) (w:World) (e:Ending) (w':World):Prop:=
 if b=true then e = .returned (.tuple #[.int .i64 0,.bool false,.int .i64 10])∧w'=w else ∃ x y z,e = .returned (.tuple #[x,y,z])∧Ys t.data.toList s x y z∧w'.heap[cb]? = some (QK t s true)∧KpM [cb] w.heap.size w w'
theorem zcj {w:World} {cb:Nat} {t s:ByteArray} {b:Bool} (h:w.heap[cb]? = some (QK t s b)) (hs:t.size≤maxLen) (hs2:s.size≤maxLen) (r:Except (Nat × Nat) (List Thk.ze)) (hP:Zs t.data.toList r) :
  Calls Tryz.prog 115 #[z9 cb] w (Kw cb t s b w):=by
 have z0:=z8 h
 have f0:=zi h
 have l0:=za h
 have H:=z6 h
 have HM:=z6 (fun W:World=>zhX t s W hs hs2 r hP)
 clear h hP
 go_enter Tryz.func115,Tryz.ntmps115
 cases b with
 | true=>
  go_wp2_with fail
  go_ret3
  exact⟨rfl,rfl⟩
 | false=>
  have HZ:Hid (∀ w2 x y z,Below (w.setCell ⟨cb,2,none⟩ (.bool true)).heap.size (w.setCell ⟨cb,2,none⟩ (.bool true)) w2→Ys t.data.toList s x y z→w2.heap[cb]? = some (QK t s true)∧Kw cb t s false w (.returned (.tuple #[x,y,z])) w2):=z6 (fun w2 x y z hb2 hI=>by
   have hz:w2.heap[cb]? = some (QK t s true):=by
    rw[hb2.block cb (by simpa [World.setCell] using l0)]
    exact zo H.out _
   refine⟨hz,?_⟩
   unfold Kw
   rw[if_neg (by decide)]
   exact⟨x,y,z,rfl,hI,hz,((KpM.refl _ _ _).set (List.mem_singleton.mpr rfl) _).trans ((KpM.of_below hb2).mono (by simp[World.setCell]))⟩)
  have hz1:(w.setCell ⟨cb,2,none⟩ (.bool true)).heap[cb]? = some (QK t s true):=zo H.out _
  have HM2:Hid (∀ W:World,Below (w.setCell ⟨cb,2,none⟩ (.bool true)).heap.size (w.setCell ⟨cb,2,none⟩ (.bool true)) W→Calls Tryz.prog 46 #[.string t,.string s] W fun e w2=>∃ (x:Int) (y:Bool) (z:Int),e = .returned (.tuple #[.int .i64 x,.bool y,.int .i64 z])∧w2.cell? ⟨cb,0,none⟩=some (.string t)∧w2.cell? ⟨cb,1,none⟩=some (.string s)∧Hid (Kw cb t s false w (.returned (.tuple #[.int .i64 x,.bool y,.int .i64 z])) w2)):=z6 (fun W hW=>(HM.out W).mono (fun e w2 h2=>by
   obtain⟨hb2,x,y,z,rfl,hI⟩:=h2.is
   obtain⟨x',y',z',rfl,rfl,rfl⟩:=hI.form
   obtain⟨h3,h4⟩:=HZ.out w2 _ _ _ (hW.trans (hb2.mono hW.size)) hI
   exact⟨x',y',z',rfl,z8 h3 0,z8 h3 1,h4⟩))
  have s0:(w.setCell ⟨cb,2,none⟩ (.bool true)).cell? ⟨cb,0,none⟩=some (.string t):=z8 hz1 0
  have s1:(w.setCell ⟨cb,2,none⟩ (.bool true)).cell? ⟨cb,1,none⟩=some (.string s):=z8 hz1 1
  clear HM HZ hz1
  go_wp2_with fail
  go_region_held (fun w'=>w'.cell? ⟨cb,0,none⟩=some (.string t)∧w'.cell? ⟨cb,1,none⟩=some (.string s)) (go_keep) (first | (go_at_call 46;refine (HM2.out _ ((Below.refl _ _).drew)).mono ?_;rintro _ w2 ⟨x,y,z,rfl,q0,q1,HF⟩))
  all_goals go_wp2_with fail
  all_goals first
   | exact HF.out
   | (go_ret3;exact HF.out)
def V9 (t s:ByteArray) (b:Bool) (w:World) (e:Ending) (w':World):Prop:=
 if b=true then qF t.data.toList s w e w' else e = .returned (.tuple #[.slice none 0 0,.int .i64 11])∧w'=w
theorem zao {w:World} {cb:Nat} {t s:ByteArray} {b:Bool} (h:w.heap[cb]? = some (QK t s b)) (hs:t.size≤maxLen) (hs2:s.size≤maxLen) (r:Except (Nat × Nat) (List Thk.ze)) (hP:Zs t.data.toList r) :
  Calls Tryz.prog 116 #[z9 cb] w (V9 t s b w):=by
 have z0:=z8 h
 have l0:=za h
 have HM:=z6 (fun W:World=>zil t s W hs hs2 r hP)
 clear h hP
 go_enter Tryz.func116,Tryz.ntmps116
 cases b with
 | false=>
  go_wp2_with fail
  go_ret2
  exact⟨rfl,rfl⟩
 | true=>
  have s0:w.cell? ⟨cb,0,none⟩=some (.string t):=z0 0
  have s1:w.cell? ⟨cb,1,none⟩=some (.string s):=z0 1
  have s2:w.cell? ⟨cb,2,none⟩=some (.bool true):=z0 2
  have HM2:Hid (∀ W:World,Below w.heap.size w W→W.heap.size=w.heap.size→Calls Tryz.prog 47 #[.string t,.string s] W fun e w2=>∃ a n cp er,e = .returned (.tuple #[.slice a n cp,.int .i64 er])∧w2.cell? ⟨cb,0,none⟩=some (.string t)∧w2.cell? ⟨cb,1,none⟩=some (.string s)∧Hid (V9 t s true w (.returned (.tuple #[.slice a n cp,.int .i64 er])) w2)):=z6 (fun W hW hz=>(HM.out W).mono (fun e w2 h2=>by
   obtain⟨hb2,v,c,rfl,hI⟩:=h2
   obtain⟨a,n,cp,er,rfl,rfl⟩:=hI.form
   have hB:Below w.heap.size w w2:=hW.trans (hb2.mono hW.size)
   exact⟨a,n,cp,er,rfl,by rw[hB.cell (p:=⟨cb,0,none⟩) l0];exact s0,by rw[hB.cell (p:=⟨cb,1,none⟩) l0];exact s1,hB,_,_,rfl,by rw[← hz];exact hI⟩))
  clear HM z0
  go_wp2_with fail
  go_region_held (fun w'=>w'.cell? ⟨cb,0,none⟩=some (.string t)∧w'.cell? ⟨cb,1,none⟩=some (.string s)) (go_keep) (first | (go_at_call 47;refine (HM2.out _ ((Below.refl _ _).drew) rfl).mono ?_;rintro _ w2 ⟨a,n,cp,er,rfl,q0,q1,HF⟩))
  all_goals go_wp2_with fail
  all_goals first
   | exact HF.out
   | (go_ret2;exact HF.out)
def qA (cb:Nat) (t:ByteArray) (b:Bool) (w:World) (e:Ending) (w':World):Prop:=
 if b=true then e = .returned (.int .i64 0)∧w'.heap[cb]? = some (QK t ⟨#[]⟩ false)∧KpM [cb] w.heap.size w w' else e = .returned (.int .i64 11)∧w'=w
theorem zc9 {w:World} {cb:Nat} {t s:ByteArray} {b:Bool} (h:w.heap[cb]? = some (QK t s b)) :
  Calls Tryz.prog 117 #[z9 cb] w (qA cb t b w):=by
 have z0:=z8 h
 have f0:=zi h
 have l0:=za h
 have H:=z6 h
 clear h
 go_enter Tryz.func117,Tryz.ntmps117
 cases b with
 | false=>
  go_wp2_with fail
  go_ret
  exact⟨rfl,rfl⟩
 | true=>
  go_wp2_with fail
  go_ret
  exact⟨rfl,zo (zo H.out _) _,((KpM.refl _ _ _).set (List.mem_singleton.mpr rfl) _).set (List.mem_singleton.mpr rfl) _⟩
end Go.Proofs.YtiganlkabilblaaGreatDoor
namespace Go.Proofs.YtiganlkabilblaaGreatDoor
open Go.RowKit Thk Go.Lib
structure Pr where
 xb:Nat
 cb:Nat
 mb:Nat
 N:List Nd
 bx:List (Nat × Nat × Nat)
 rs:List Nat
 vr:Value
 S:Nat→Prop
 t:ByteArray
 g:List ze
 E:List Bool
 s:ByteArray
 dn:Bool
 iv:Value
def Pr.mut (p:Pr) (x:Nat):Prop:=x=p.xb∨x=p.mb∨x=p.cb∨p.iv.ownBlock=some x
def Pr.rd (B:Nat) (w:World) (p:Pr):Prop:=
 if p.dn=true then p.iv = .slice none 0 0∧∃ o,(∀ h : 0<p.g.length,Ev p.g p.s.data.toList (.C p.g[0].choice) 0 o)∧w.heap[p.xb]? = some (rdU p.mb 2 (.slice none 0 0) o)
 else w.heap[p.xb]? = some (ZE p.mb 1 p.iv 0 .nilIface false)∧w.ownsRow B 5 1 p.iv p.s.size (strCells p.s)
structure Z2 (B:Nat) (F:Nat→Prop) (w:World) (p:Pr):Prop where
 tsz:p.t.size≤maxLen
 all:Zo p.t.data.toList (.ok (p.g,p.E))
 ted:Jv w p.mb p.N p.bx p.rs p.vr p.S
 blk:w.heap[p.mb]? = some (Zz p.vr ⟨#[]⟩ (.map none) .nilIface)
 dnr:DnR p.N p.rs p.g
 ssz:p.s.size≤200
 cbk:w.heap[p.cb]? = some (QK p.t p.s p.dn)
 rd:p.rd B w
 mu:∀ x,p.mut x→F x∧¬ p.S x
 fS:∀ x,p.S x→F x∨QA w x
theorem YV {w:World} {b:Nat} {cs:Array Value} {T:TypeId} (hb:w.heap[b]? = some (.cells cs T (0,0))) (hT:T≠313):b<w.heap.size∧¬ QA w b:=by
 refine⟨zd hb,?_⟩
 rintro⟨cur,hc⟩
 rw[hb] at hc
 simp at hc
 exact hT hc.2
theorem Z2.xcells {B:Nat} {F:Nat→Prop} {w:World} {p:Pr} (h:Z2 B F w p):∃ st iv c nv ok,w.heap[p.xb]? = some (ZE p.mb st iv c nv ok):=by
 have:=h.rd
 unfold Pr.rd at this
 by_cases hd:p.dn=true
 ·rw[if_pos hd] at this
  obtain⟨_,o,_,ho⟩:=this
  obtain⟨c,nv,e⟩:=zcc p.mb 2 (.slice none 0 0) o
  rw[e] at ho
  exact⟨_,_,_,_,_,ho⟩
 ·rw[if_neg hd] at this
  exact⟨_,_,_,_,_,this.1⟩
theorem Z2.typ {B:Nat} {F:Nat→Prop} {w:World} {p:Pr} (h:Z2 B F w p) {x:Nat} (hx:p.mut x):x<w.heap.size∧¬ QA w x:=by
 rcases hx with rfl | rfl | rfl | hx
 ·obtain⟨_,_,_,_,_,e⟩:=h.xcells
  exact YV e (by decide)
 ·exact YV h.blk (by decide)
 ·exact YV h.cbk (by decide)
 ·have:=h.rd
  unfold Pr.rd at this
  by_cases hd:p.dn=true
  ·rw[if_pos hd] at this
   rw[this.1] at hx
   simp[Value.ownBlock] at hx
  ·rw[if_neg hd] at this
   obtain⟨cur,hc⟩:=Zr this.2 hx
   exact YV hc (by decide)
def MuT (T:TypeId):Prop:=T=119∨T=177∨T=282∨T=5
theorem Z2.typ2 {B:Nat} {F:Nat→Prop} {w:World} {p:Pr} (h:Z2 B F w p) {x:Nat} (hx:p.mut x):∃ cs T,w.heap[x]? = some (.cells cs T (0,0))∧MuT T:=by
 rcases hx with rfl | rfl | rfl | hx
 ·obtain⟨_,_,_,_,_,e⟩:=h.xcells
  exact⟨_,_,e,.inl rfl⟩
 ·exact⟨_,_,h.blk,.inr (.inl rfl)⟩
 ·exact⟨_,_,h.cbk,.inr (.inr (.inl rfl))⟩
 ·have:=h.rd
  unfold Pr.rd at this
  by_cases hd:p.dn=true
  ·rw[if_pos hd] at this
   rw[this.1] at hx
   simp[Value.ownBlock] at hx
  ·rw[if_neg hd] at this
   obtain⟨cur,hc⟩:=Zr this.2 hx
   exact⟨_,_,hc,.inr (.inr (.inr rfl))⟩
theorem Z2.keep {B:Nat} {F F':Nat→Prop} {w w':World} {p:Pr} (h:Z2 B F w p) (hs:w.heap.size≤w'.heap.size) (hF:∀ x,x<w.heap.size→F x→F' x) (hk:∀ x,x<w.heap.size→F x∨QA w x→w'.heap[x]? = w.heap[x]?):Z2 B F' w' p:=by
 have hm:∀ x,p.mut x→w'.heap[x]? = w.heap[x]? := fun x hx=>hk x (h.typ hx).1 (.inl (h.mu x hx).1)
 refine⟨h.tsz,h.all,h.ted.same hs (fun b hb=>hk b (h.ted.lt b hb) (h.fS b hb)),?_,h.dnr,h.ssz,?_,?_,?_,?_⟩
 ·rw[hm _ (.inr (.inl rfl))];exact h.blk
 ·rw[hm _ (.inr (.inr (.inl rfl)))];exact h.cbk
 ·have:=h.rd
  unfold Pr.rd at this ⊢
  by_cases hd:p.dn=true
  ·rw[if_pos hd] at this ⊢
   obtain⟨h1,o,h2,h3⟩:=this
   exact⟨h1,o,h2,by rw[hm _ (.inl rfl)];exact h3⟩
  ·rw[if_neg hd] at this ⊢
   exact⟨by rw[hm _ (.inl rfl)];exact this.1,Z6 this.2 (fun g hg=>hm g (.inr (.inr (.inr hg))))⟩
 ·exact fun x hx=>⟨hF x (h.typ hx).1 (h.mu x hx).1,(h.mu x hx).2⟩
 ·intro x hx
  have hl:=h.ted.lt x hx
  rcases h.fS x hx with h1 | ⟨cu,h1⟩
  ·exact .inl (hF x hl h1)
  ·exact .inr ⟨cu,by rw[hk x hl (.inr ⟨cu,h1⟩)];exact h1⟩
theorem GrW.trans {a b c:World} {row:Nat→Prop} (h:GrW a b row) (k:GrW b c row):GrW a c row:=⟨k.os.trans h.os,k.tape.trans h.tape,k.output.trans h.output,Nat.le_trans h.size k.size,fun x hx hr=>(k.block x (Nat.lt_of_lt_of_le hx h.size) hr).trans (h.block x hx hr)⟩
theorem GrW.imp {a b:World} {row row':Nat→Prop} (h:GrW a b row) (hi:∀ x,row x→row' x):GrW a b row':=⟨h.os,h.tape,h.output,h.size,fun x hx hr=>h.block x hx (fun e=>hr (hi x e))⟩
theorem GrW.refl (a:World) (row:Nat→Prop):GrW a a row:=⟨rfl,rfl,rfl,Nat.le_refl _,fun _ _ _=>rfl⟩
theorem KpM.grw {rbs:List Nat} {a b:World} {row:Nat→Prop} (h:KpM rbs a.heap.size a b) (hi:∀ x,x ∈ rbs→row x):GrW a b row:=⟨h.os,h.tape,h.output,h.size,fun x hx hr=>h.block x hx (fun e=>hr (hi x e))⟩
theorem zfb {a b:World} (row:Nat→Prop) (h:Below a.heap.size a b):GrW a b row:=⟨h.os,h.tape,h.output,h.size,fun x hx _=>h.block x hx⟩
theorem Z2.upd {B:Nat} {F:Nat→Prop} {w w':World} {p:Pr} (h:Z2 B F w p) (hg:GrW w w' p.mut) {s':ByteArray} {dn':Bool} {iv':Value} (hs:s'.size≤200) (hb:w'.heap[p.mb]? = some (Zz p.vr ⟨#[]⟩ (.map none) .nilIface)) (hc:w'.heap[p.cb]? = some (QK p.t s' dn')) (hr:Pr.rd B w' { p with s:=s',dn:=dn',iv:=iv' }) (hi:∀ x,iv'.ownBlock=some x→p.iv.ownBlock=some x∨w.heap.size≤x):Z2 B (fun x=>F x∨w.heap.size≤x) w' { p with s:=s',dn:=dn',iv:=iv' }:=by
 have hS:∀ x,p.S x→w'.heap[x]? = w.heap[x]? := fun x hx=>hg.block x (h.ted.lt x hx) (fun hm=>(h.mu x hm).2 hx)
 refine⟨h.tsz,h.all,h.ted.same hg.size hS,hb,h.dnr,hs,hc,hr,?_,?_⟩
 ·have old:∀ x,p.mut x→(F x∨w.heap.size≤x)∧¬ p.S x:=fun x hx=>⟨.inl (h.mu x hx).1,(h.mu x hx).2⟩
  rintro x (rfl | rfl | rfl | hx)
  ·exact old _ (.inl rfl)
  ·exact old _ (.inr (.inl rfl))
  ·exact old _ (.inr (.inr (.inl rfl)))
  ·rcases hi x hx with h1 | h1
   ·exact old _ (.inr (.inr (.inr h1)))
   ·exact⟨.inr h1,fun hS'=>by have:=h.ted.lt x hS';omega⟩
 ·intro x hx
  rcases h.fS x hx with h1 | ⟨cu,h1⟩
  ·exact .inl (.inl h1)
  ·exact .inr ⟨cu,by rw[hS x hx];exact h1⟩
theorem Jf.lt {F:Nat→Prop} {w:World} {nb m:Nat} (h:Jf F w nb m):Jf (fun x=>F x∧x<w.heap.size) w nb m:=by
 obtain⟨n,A,C,hn,h1,h2⟩:=h.ex
 refine⟨⟨h.fnb,zd h1⟩,n,A,C,hn,h1,fun k i hk hi=>?_⟩
 obtain⟨b,hF,hl,h3⟩:=h2 k i hk hi
 exact⟨b,⟨hF,hl⟩,hl,h3⟩
abbrev Qe (p:Pr):List Value:=[z9 p.xb,z9 p.cb]
structure ZA (w0:World) (yb:Nat) (o:Nat→Nat) (ps:List Pr) (nbs:List Nat) (w:World):Prop where
 bel:Below w0.heap.size w0 w
 ex:∃ vp va,w.heap[yb]? = some (plO vp va (.slice none 0 0))∧w.ownsRow w0.heap.size 167 2 vp ps.length (ps.flatMap Qe)∧w.ownsRow w0.heap.size 163 1 va nbs.length (nbs.map Jy)∧(∀ x,vp.ownBlock=some x→o x=0)∧(∀ x,va.ownBlock=some x→o x=0)
 yo:o yb=0
 yge:w0.heap.size≤yb
 ent:∀ i (h:i<nbs.length),Jf (fun x=>o x=1∧w0.heap.size≤x) w nbs[i] i
 prs:∀ i (h:i<ps.length),Z2 w0.heap.size (fun x=>o x=i+2∧w0.heap.size≤x) w ps[i]
theorem ZA.below {w0 w w':World} {yb:Nat} {o:Nat→Nat} {ps:List Pr} {nbs:List Nat} (h:ZA w0 yb o ps nbs w) (hb:Below w.heap.size w w'):ZA w0 yb o ps nbs w':=by
 obtain⟨vp,va,e1,e2,e3,e4,e5⟩:=h.ex
 refine⟨h.bel.trans (hb.mono h.bel.size),⟨vp,va,by rw[hb.block _ (zd e1)];exact e1,Zv e2 hb,Zv e3 hb,e4,e5⟩,h.yo,h.yge,fun i hi=>(h.ent i hi).same hb.size (fun b hl _=>hb.block b hl),fun i hi=>(h.prs i hi).keep hb.size (fun _ _ hx=>hx) (fun x hl _=>hb.block x hl)⟩
theorem zh6 {ps:List Pr} {i:Nat} (hi:i<ps.length) {p:Pr} (he:Qe p=Qe ps[i]):(ps.set i p).flatMap Qe=ps.flatMap Qe:=by
 rw[List.flatMap_def,List.flatMap_def,List.map_set,he]
 congr 1
 have : Qe ps[i] = (ps.map Qe)[i]'(by simpa using hi) := by simp
 rw[this,List.set_getElem_self]
theorem ZA.pair {w0 w w':World} {yb:Nat} {o:Nat→Nat} {ps:List Pr} {nbs:List Nat} (h:ZA w0 yb o ps nbs w) {i:Nat} (hi:i<ps.length) {p:Pr} (he:Qe p=Qe ps[i]) (hg:GrW w w' ps[i].mut) (hp:Z2 w0.heap.size (fun x=>(o x=i+2∧w0.heap.size≤x)∨w.heap.size≤x) w' p):∃ o',ZA w0 yb o' (ps.set i p) nbs w':=by
 have hP:=h.prs i hi
 have hB:w0.heap.size≤w.heap.size:=h.bel.size
 have key:∀ x,x<w.heap.size→o x≠i+2∨QA w x→w'.heap[x]? = w.heap[x]? := fun x hx hc=>hg.block x hx (fun hm=>by
  rcases hc with hc | hc
  ·exact hc (hP.mu x hm).1.1
  ·exact (hP.typ hm).2 hc)
 obtain⟨vp,va,e1,e2,e3,e4,e5⟩:=h.ex
 refine⟨fun x=>if x<w.heap.size then o x else i+2,?_,⟨vp,va,?_,?_,?_,?_,?_⟩,?_,h.yge,?_,?_⟩
 ·exact h.bel.trans (hg.belowOf hB (fun x hx=>(hP.mu x hx).1.2))
 ·rw[key yb (zd e1) (.inl (by rw[h.yo];omega))];exact e1
 ·rw[List.length_set,zh6 hi he]
  exact Z6 e2 (fun g hg=>key g (e2.lt g hg).2 (.inl (by rw[e4 g hg];omega)))
 ·exact Z6 e3 (fun g hg=>key g (e3.lt g hg).2 (.inl (by rw[e5 g hg];omega)))
 ·intro x hx
  simp only[(e2.lt x hx).2,if_true]
  exact e4 x hx
 ·intro x hx
  simp only[(e3.lt x hx).2,if_true]
  exact e5 x hx
 ·simp only[zd e1,if_true]
  exact h.yo
 ·intro j hj
  have hE:=h.ent j hj
  have hE2:Jf (fun x=>(o x=1∧w0.heap.size≤x)∧x<w.heap.size) w nbs[j] j:=hE.lt
  exact (hE2.same hg.size (fun b hb hF=>key b hb (.inl (by rw[hF.1.1];omega)))).imp (fun x hx=>⟨by simp only[hx.2,if_true];exact hx.1.1,hx.1.2⟩)
 ·intro j hj
  rw[List.length_set] at hj
  by_cases hji:i=j
  ·subst hji
   rw[List.getElem_set_self]
   refine hp.keep (Nat.le_refl _) (fun x _ hx=>?_) (fun _ _ _=>rfl)
   rcases hx with hx | hx
   ·refine⟨?_,hx.2⟩
    by_cases hl:x<w.heap.size
    ·simp only[hl,if_true];exact hx.1
    ·simp only[hl,if_false]
   ·refine⟨?_,by omega⟩
    simp only[Nat.not_lt.2 hx,if_false]
  ·rw[List.getElem_set_ne hji]
   refine (h.prs j hj).keep hg.size (fun x hl hx=>⟨by simp only[hl,if_true];exact hx.1,hx.2⟩) (fun x hl hx=>key x hl ?_)
   rcases hx with hx | hx
   ·exact .inl (by rw[hx.1];omega)
   ·exact .inr hx
theorem zc2 {w:World} {B C n k sz1 sz2:Nat} {T U:TypeId} {v u:Value} {xs ys:List Value} (h:w.ownsRow B T sz1 v n xs) (k:w.ownsRow C U sz2 u k ys) (hne:T≠U) {x:Nat} (hx:v.ownBlock=some x):u.ownBlock≠some x:=fun e=>by
 obtain⟨c1,h1⟩:=Zr h hx
 obtain⟨c2,h2⟩:=Zr k e
 rw[h1] at h2
 simp at h2
 exact hne h2.2
theorem ZA.booked {w0 w w':World} {yb:Nat} {o:Nat→Nat} {ps:List Pr} {nbs:List Nat} {vp va:Value} (h:ZA w0 yb o ps nbs w) (e1:w.heap[yb]? = some (plO vp va (.slice none 0 0))) (e2:w.ownsRow w0.heap.size 167 2 vp ps.length (ps.flatMap Qe)) (e3:w.ownsRow w0.heap.size 163 1 va nbs.length (nbs.map Jy)) (e4:∀ x,vp.ownBlock=some x→o x=0) (e5:∀ x,va.ownBlock=some x→o x=0) (hT:zaT yb w0.heap.size nbs.length vp va (.slice none 0 0) (nbs.map Jy) w w'):∃ nb o',ZA w0 yb o' ps (nbs++[nb]) w':=by
 obtain⟨va',nb,t1,t2,t3,t4,t5⟩:=hT
 have hB:w0.heap.size≤w.heap.size:=h.bel.size
 have hrow:∀ x,(x=yb∨va.ownBlock=some x)→o x=0∧w0.heap.size≤x∧¬ QA w x:=by
  rintro x (rfl | hx)
  ·exact⟨h.yo,h.yge,(YV e1 (by decide)).2⟩
  ·obtain⟨cur,hc⟩:=Zr e3 hx
   exact⟨e5 x hx,(e3.lt x hx).1,(YV hc (by decide)).2⟩
 have key:∀ x,x<w.heap.size→o x≠0∨QA w x→w'.heap[x]? = w.heap[x]? := fun x hx hc=>t4.block x hx (fun hm=>by
  rcases hc with hc | hc
  ·exact hc (hrow x hm).1
  ·exact (hrow x hm).2.2 hc)
 have hnew:∀ x,x<w.heap.size→va'.ownBlock=some x→va.ownBlock=some x:=fun x hx hv=>by
  rcases t5 with e | ⟨g,e,hg⟩
  ·rw[← e];exact hv
  ·rw[e] at hv;cases hv;omega
 refine⟨nb,fun x=>if x<w.heap.size then o x else if va'.ownBlock=some x then 0 else 1,?_,⟨vp,va',t1,?_,?_,?_,?_⟩,?_,h.yge,?_,?_⟩
 ·exact h.bel.trans (t4.belowOf hB (fun x hx=>(hrow x hx).2.1))
 ·refine Z6 e2 (fun g hg=>t4.block g (e2.lt g hg).2 ?_)
  rintro (rfl | hv)
  ·obtain⟨cur,hc⟩:=Zr e2 hg
   rw[e1] at hc;simp at hc
  ·exact zc2 e2 e3 (by decide) hg hv
 ·simpa using t2
 ·intro x hx
  simp only[(e2.lt x hx).2,if_true]
  exact e4 x hx
 ·intro x hx
  by_cases hl:x<w.heap.size
  ·simp only[hl,if_true]
   exact e5 x (hnew x hl hx)
  ·simp only[hl,if_false,hx,if_true]
 ·simp only[zd e1,if_true]
  exact h.yo
 ·intro j hj
  by_cases hjl:j<nbs.length
  ·rw[List.getElem_append_left hjl]
   exact ((h.ent j hjl).lt.same t4.size (fun b hb hF=>key b hb (.inl (by rw[hF.1.1];decide)))).imp (fun x hx=>⟨by simp only[hx.2,if_true];exact hx.1.1,hx.1.2⟩)
  ·have hje:j=nbs.length:=by simp at hj;omega
   subst hje
   rw[List.getElem_append_right (Nat.le_refl _)]
   simp only[Nat.sub_self,List.getElem_cons_zero]
   refine t3.imp (fun x hx=>⟨?_,by omega⟩)
   simp only[Nat.not_lt.2 hx.1,if_false,hx.2,if_false]
 ·intro j hj
  refine (h.prs j hj).keep t4.size (fun x hl hx=>⟨by simp only[hl,if_true];exact hx.1,hx.2⟩) (fun x hl hx=>key x hl ?_)
  rcases hx with hx | hx
  ·exact .inl (by rw[hx.1];omega)
  ·exact .inr hx
theorem ZA.more {w0 w w1 w':World} {yb:Nat} {o:Nat→Nat} {ps:List Pr} {nbs:List Nat} {vp va vp':Value} {p:Pr} (h:ZA w0 yb o ps nbs w) (e1:w.heap[yb]? = some (plO vp va (.slice none 0 0))) (e2:w.ownsRow w0.heap.size 167 2 vp ps.length (ps.flatMap Qe)) (e3:w.ownsRow w0.heap.size 163 1 va nbs.length (nbs.map Jy)) (e4:∀ x,vp.ownBlock=some x→o x=0) (e5:∀ x,va.ownBlock=some x→o x=0)
  (hb1:Below w.heap.size w w1) (hp:Z2 w0.heap.size (fun x=>w.heap.size≤x) w1 p) (hg:GrW w1 w' (fun x=>x=yb∨vp.ownBlock=some x)) (hy:w'.heap[yb]? = some (plO vp' va (.slice none 0 0))) (hown:w'.ownsRow w0.heap.size 167 2 vp' (ps.length+1) (ps.flatMap Qe++Qe p)) (hv:vp'.ownBlock=vp.ownBlock∨∃ g,vp'.ownBlock=some g∧w1.heap.size≤g):∃ o',ZA w0 yb o' (ps++[p]) nbs w':=by
 have hB:w0.heap.size≤w.heap.size:=h.bel.size
 have hz1:=hb1.size
 have hrow:∀ x,(x=yb∨vp.ownBlock=some x)→o x=0∧w0.heap.size≤x∧¬ QA w x∧x<w.heap.size:=by
  rintro x (rfl | hx)
  ·exact⟨h.yo,h.yge,(YV e1 (by decide)).2,zd e1⟩
  ·obtain⟨cur,hc⟩:=Zr e2 hx
   exact⟨e4 x hx,(e2.lt x hx).1,(YV hc (by decide)).2,zd hc⟩
 have hG:GrW w w' (fun x=>x=yb∨vp.ownBlock=some x):=(zfb _ hb1).trans hg
 have key:∀ x,x<w.heap.size→o x≠0∨QA w x→w'.heap[x]? = w.heap[x]? := fun x hx hc=>hG.block x hx (fun hm=>by
  rcases hc with hc | hc
  ·exact hc (hrow x hm).1
  ·exact (hrow x hm).2.2.1 hc)
 have hnew:∀ x,x<w1.heap.size→vp'.ownBlock=some x→vp.ownBlock=some x:=fun x hx hv'=>by
  rcases hv with e | ⟨g,e,hg⟩
  ·rw[← e];exact hv'
  ·rw[e] at hv';cases hv';omega
 refine⟨fun x=>if x<w.heap.size then o x else if vp'.ownBlock=some x then 0 else ps.length+2,?_,⟨vp',va,hy,?_,?_,?_,?_⟩,?_,h.yge,?_,?_⟩
 ·exact h.bel.trans (hG.belowOf hB (fun x hx=>(hrow x hx).2.1))
 ·simpa using hown
 ·refine Z6 e3 (fun g hgv=>hG.block g (e3.lt g hgv).2 (fun hm=>?_))
  rcases hm with hm | hm
  ·subst hm
   obtain⟨cur,hc⟩:=Zr e3 hgv
   rw[e1] at hc;simp at hc
  ·exact zc2 e3 e2 (by decide) hgv hm
 ·intro x hx
  by_cases hl:x<w.heap.size
  ·simp only[hl,if_true]
   exact e4 x (hnew x (by omega) hx)
  ·simp only[hl,if_false,hx,if_true]
 ·intro x hx
  simp only[(e3.lt x hx).2,if_true]
  exact e5 x hx
 ·simp only[zd e1,if_true]
  exact h.yo
 ·intro j hj
  exact ((h.ent j hj).lt.same hG.size (fun b hb hF=>key b hb (.inl (by rw[hF.1.1];decide)))).imp (fun x hx=>⟨by simp only[hx.2,if_true];exact hx.1.1,hx.1.2⟩)
 ·intro j hj
  by_cases hjl:j<ps.length
  ·rw[List.getElem_append_left hjl]
   refine (h.prs j hjl).keep hG.size (fun x hl hx=>⟨by simp only[hl,if_true];exact hx.1,hx.2⟩) (fun x hl hx=>key x hl ?_)
   rcases hx with hx | hx
   ·exact .inl (by rw[hx.1];omega)
   ·exact .inr hx
  ·have hje:j=ps.length:=by simp at hj;omega
   subst hje
   rw[List.getElem_append_right (Nat.le_refl _)]
   simp only[Nat.sub_self,List.getElem_cons_zero]
   refine hp.keep hg.size (fun x hl hx=>⟨?_,by omega⟩) (fun x hl hx=>hg.block x hl (fun hm=>?_))
   ·have hne:¬ vp'.ownBlock=some x:=fun e=>by
     have:=(hrow x (.inr (hnew x hl e))).2.2.2
     omega
    simp only[Nat.not_lt.2 hx,if_false,hne,if_false]
   ·obtain⟨_,_,h3,h4⟩:=hrow x hm
    rcases hx with hx | ⟨cu,hx⟩
    ·omega
    ·exact h3 ⟨cu,by rw[← hb1.block x h4];exact hx⟩
end Go.Proofs.YtiganlkabilblaaGreatDoor
namespace Go.Proofs.YtiganlkabilblaaGreatDoor
open Go.RowKit Thk Go.Lib
attribute [local go_sem ↓] Go.wp_at_zero Go.wp_at_succ
theorem zh7 {w:World} {rb mb:Nat} {st c:Int} {iv nv:Value} {ok:Bool} (h:w.heap[rb]? = some (ZE mb st iv c nv ok)) (hst:¬ st=1) :
  Calls Tryz.prog 35 #[z9 rb] w fun e w'=>e = .returned (.tuple #[.int .i64 0,.bool false,.int .i64 10])∧w'=w:=by
 have HI:=z6 (Ke (q:=1) h)
 clear h
 go_enter Tryz.func35,Tryz.ntmps35
 go_wp2_with fail
 refine HI.out.mono ?_
 rintro _ w1 ⟨rfl,rfl⟩
 clear HI
 simp only[hst,decide_false]
 go_wp2_with fail
 go_ret3
 exact⟨rfl,rfl⟩
theorem zh8 {w:World} {rb mb B:Nat} {c:Int} {iv nv:Value} {ok:Bool} {s:ByteArray} {N:List Nd} {bx:List (Nat × Nat × Nat)} {rs:List Nat} {vr:Value} {S:Nat→Prop} {g:List ze}
  (h:w.heap[rb]? = some (ZE mb 1 iv c nv ok)) (hs:s.size≤200) (hown:w.ownsRow B 5 1 iv s.size (strCells s)) (hM:Jv w mb N bx rs vr S) (hb:w.heap[mb]? = some (Zz vr ⟨#[]⟩ (.map none) .nilIface))
  (hR:DnR N rs g) (hg : 0<g.length) (hgl:g.length≤20) (o:Out) (ho:Ev g s.data.toList (.C g[0].choice) 0 o) (hoe:zN o≤1000000) (hnm:rb≠mb) :
  Calls Tryz.prog 35 #[z9 rb] w fun e w'=>e = .returned (.tuple #[.int .i64 (zN o),.bool o.isSome,.int .i64 0])∧w'.heap[rb]? = some (rdU mb 2 (.slice none 0 0) o)∧w'.heap[mb]? = some (Zz vr ⟨#[]⟩ (.map none) .nilIface)∧KpM [rb,mb] w.heap.size w w':=by
 have HI:=z6 (Ke (q:=1) h)
 have hl:=zd h
 have z0:=z8 h
 have H:=z6 h
 have HTK:=z6 (zgB (w:=w.drew) (hM.same (Nat.le_refl _) (fun _ _=>rfl)) hb hR hg hgl (by omega) o ho)
 have HCV:=zcy hown
 have HCD:=zcy (w:=w.drew) (B:=B) (v:=iv) (s:=s) (by exact hown)
 clear h hown hM hb hR ho
 go_enter Tryz.func35,Tryz.ntmps35
 go_wp2_with fail
 refine HI.out.mono ?_
 rintro _ w1 ⟨rfl,rfl⟩
 clear HI
 simp only[decide_true]
 obtain⟨c',nv',hU,hnf⟩:=zjw o
 rw[hU] at HTK
 have HK2:Hid (∀ w2,KpM [mb] w1.drew.heap.size w1.drew w2→w2.heap[rb]? = some (ZE mb 1 iv c nv ok)):=z6 (fun w2 hk=>by rw[hk.block rb hl (by simpa using hnm)];exact H.out)
 have HZF:Hid (∀ w2:World,w2.heap[rb]? = some (ZE mb 1 iv c nv ok)→w2.heap[mb]? = some (Zz vr ⟨#[]⟩ (.map none) .nilIface)→KpM [mb] w1.drew.heap.size w1.drew w2→(((((((w2.setCell ⟨rb,3,none⟩ (.int .i64 0)).setCell ⟨rb,4,none⟩ (.int .i64 0)).setCell ⟨rb,5,none⟩ (.int .i64 c')).setCell ⟨rb,6,none⟩ nv').setCell ⟨rb,7,none⟩ (.bool o.isSome)).setCell ⟨rb,1,none⟩ (.int .u8 2)).setCell ⟨rb,2,none⟩ (.slice none 0 0)).heap[rb]? = some (ZE mb 2 (.slice none 0 0) c' nv' o.isSome)∧(((((((w2.setCell ⟨rb,3,none⟩ (.int .i64 0)).setCell ⟨rb,4,none⟩ (.int .i64 0)).setCell ⟨rb,5,none⟩ (.int .i64 c')).setCell ⟨rb,6,none⟩ nv').setCell ⟨rb,7,none⟩ (.bool o.isSome)).setCell ⟨rb,1,none⟩ (.int .u8 2)).setCell ⟨rb,2,none⟩ (.slice none 0 0)).heap[mb]? = some (Zz vr ⟨#[]⟩ (.map none) .nilIface)∧KpM [rb,mb] w1.heap.size w1 (((((((w2.setCell ⟨rb,3,none⟩ (.int .i64 0)).setCell ⟨rb,4,none⟩ (.int .i64 0)).setCell ⟨rb,5,none⟩ (.int .i64 c')).setCell ⟨rb,6,none⟩ nv').setCell ⟨rb,7,none⟩ (.bool o.isSome)).setCell ⟨rb,1,none⟩ (.int .u8 2)).setCell ⟨rb,2,none⟩ (.slice none 0 0))):=z6 (fun w2 h1 h2 h3=>zeK h1 h2 h3 hnm c' nv' o.isSome)
 have HUO:Hid (∀ iv,rdU mb 2 iv o=ZE mb 2 iv c' nv' o.isSome):=z6 (fun iv=>zhx hU mb 2 iv)
 have HTN:Hid (∀ W:World,Calls Tryz.prog 56 #[.agg #[.int .i64 0,.int .i64 0,.int .i64 c',nv']] W fun e w'=>e = .returned (.int .i64 (zN o))∧Below W.heap.size W w'):=z6 (fun W=>by have:=zj5 o hoe W;rw[hU] at this;exact this)
 clear hU
 rcases hnf with rfl | ⟨tt,vv,rfl⟩
 ·go_wp2_with fail
  go_region_with (go_at_call 60;refine HTK.out.mono ?_;rintro _ w2 ⟨rfl,hm2,hM2,hk2⟩;have hr2:=HK2.out w2 hk2;have y1:=z8 hr2;have y2:=zi hr2;have y3:=za hr2;have HR2:=z6 hr2;have HM2:=z6 hm2;have HKM:=z6 hk2;clear hm2 hM2 hk2 hr2 HTK)
  all_goals
   go_wp2_with fail
   have HZ:=z6 (HZF.out w2 HR2.out HM2.out HKM.out)
   clear y1 y2 y3 HR2 HM2 HKM HK2 z0 H HCV HCD HZF
   generalize (((((((w2.setCell ⟨rb,3,none⟩ (.int .i64 0)).setCell ⟨rb,4,none⟩ (.int .i64 0)).setCell ⟨rb,5,none⟩ (.int .i64 c')).setCell ⟨rb,6,none⟩ .nilIface).setCell ⟨rb,7,none⟩ (.bool o.isSome)).setCell ⟨rb,1,none⟩ (.int .u8 2)).setCell ⟨rb,2,none⟩ (.slice none 0 0))=W5 at *
   have x3:=za HZ.out.1
   have c3:=z8 HZ.out.1 3
   have c4:=z8 HZ.out.1 4
   have c5:=z8 HZ.out.1 5
   have c6:=z8 HZ.out.1 6
   have c7:=z8 HZ.out.1 7
   simp at c3 c4 c5 c6 c7
   go_region_held (fun w'=>w'.cell? ⟨rb,3,none⟩=some (.int .i64 0)∧w'.cell? ⟨rb,4,none⟩=some (.int .i64 0)∧w'.cell? ⟨rb,5,none⟩=some (.int .i64 c')∧w'.cell? ⟨rb,6,none⟩=some .nilIface∧w'.cell? ⟨rb,7,none⟩=some (.bool o.isSome)) (go_keep) (first | (go_at_call 56;refine (HTN.out _).mono ?_;rintro _ w3 ⟨rfl,hb3⟩;have v3:=hb3.cell (p:=⟨rb,3,none⟩) x3;have v4:=hb3.cell (p:=⟨rb,4,none⟩) x3;have v5:=hb3.cell (p:=⟨rb,5,none⟩) x3;have v6:=hb3.cell (p:=⟨rb,6,none⟩) x3;have v7:=hb3.cell (p:=⟨rb,7,none⟩) x3;have HB3:=z6 hb3;clear hb3))
   all_goals go_wp2_with fail
   all_goals go_ret3
   all_goals exact⟨rfl,by rw[HUO.out,HB3.out.block rb x3];exact HZ.out.1,by rw[HB3.out.block mb (zd HZ.out.2.1)];exact HZ.out.2.1,HZ.out.2.2.low ((Below.refl _ W5).drew.trans (HB3.out.mono HZ.out.2.2.size))⟩
 ·go_wp2_with fail
  go_region_with (go_at_call 60;refine HTK.out.mono ?_;rintro _ w2 ⟨rfl,hm2,hM2,hk2⟩;have hr2:=HK2.out w2 hk2;have y1:=z8 hr2;have y2:=zi hr2;have y3:=za hr2;have HR2:=z6 hr2;have HM2:=z6 hm2;have HKM:=z6 hk2;clear hm2 hM2 hk2 hr2 HTK)
  all_goals
   go_wp2_with fail
   have HZ:=z6 (HZF.out w2 HR2.out HM2.out HKM.out)
   clear y1 y2 y3 HR2 HM2 HKM HK2 z0 H HCV HCD HZF
   generalize (((((((w2.setCell ⟨rb,3,none⟩ (.int .i64 0)).setCell ⟨rb,4,none⟩ (.int .i64 0)).setCell ⟨rb,5,none⟩ (.int .i64 c')).setCell ⟨rb,6,none⟩ (.iface tt vv)).setCell ⟨rb,7,none⟩ (.bool o.isSome)).setCell ⟨rb,1,none⟩ (.int .u8 2)).setCell ⟨rb,2,none⟩ (.slice none 0 0))=W5 at *
   have x3:=za HZ.out.1
   have c3:=z8 HZ.out.1 3
   have c4:=z8 HZ.out.1 4
   have c5:=z8 HZ.out.1 5
   have c6:=z8 HZ.out.1 6
   have c7:=z8 HZ.out.1 7
   simp at c3 c4 c5 c6 c7
   go_region_held (fun w'=>w'.cell? ⟨rb,3,none⟩=some (.int .i64 0)∧w'.cell? ⟨rb,4,none⟩=some (.int .i64 0)∧w'.cell? ⟨rb,5,none⟩=some (.int .i64 c')∧w'.cell? ⟨rb,6,none⟩=some (.iface tt vv)∧w'.cell? ⟨rb,7,none⟩=some (.bool o.isSome)) (go_keep) (first | (go_at_call 56;refine (HTN.out _).mono ?_;rintro _ w3 ⟨rfl,hb3⟩;have v3:=hb3.cell (p:=⟨rb,3,none⟩) x3;have v4:=hb3.cell (p:=⟨rb,4,none⟩) x3;have v5:=hb3.cell (p:=⟨rb,5,none⟩) x3;have v6:=hb3.cell (p:=⟨rb,6,none⟩) x3;have v7:=hb3.cell (p:=⟨rb,7,none⟩) x3;have HB3:=z6 hb3;clear hb3))
   all_goals go_wp2_with fail
   all_goals go_ret3
   all_goals exact⟨rfl,by rw[HUO.out,HB3.out.block rb x3];exact HZ.out.1,by rw[HB3.out.block mb (zd HZ.out.2.1)];exact HZ.out.2.1,HZ.out.2.2.low ((Below.refl _ W5).drew.trans (HB3.out.mono HZ.out.2.2.size))⟩
end Go.Proofs.YtiganlkabilblaaGreatDoor
namespace Go.Proofs.YtiganlkabilblaaGreatDoor
open Go.RowKit Thk Go.Lib
abbrev pbO (x c:Nat):Obj:=.cells #[z9 x,z9 c] 167 (0,0)
abbrev opO (kd r:Int) (t s:ByteArray):Obj:=.cells #[.int .i64 kd,.int .i64 r,.string t,.string s] 100 (0,0)
def Nxt (B:Nat) (F:Nat→Prop) (w w':World) (p:Pr):Prop:=GrW w w' p.mut∧∃ p',Qe p'=Qe p∧Z2 B (fun x=>F x∨w.heap.size≤x) w' p'
section
variable {B : Nat} {F : Nat → Prop} {w : World} {p : Pr}
theorem Z2.still (h:Z2 B F w p):Nxt B F w w p:=⟨GrW.refl _ _,p,rfl,h.keep (Nat.le_refl _) (fun _ _ hx=>.inl hx) (fun _ _ _=>rfl)⟩
theorem VH {w:World} {a b:Nat} {cs ds:Array Value} {T U:TypeId} (ha:w.heap[a]? = some (.cells cs T (0,0))) (hb:w.heap[b]? = some (.cells ds U (0,0))) (h:T≠U):a≠b:=by
 rintro rfl
 rw[ha] at hb
 simp at hb
 exact h hb.2
theorem Z2.xm (h:Z2 B F w p):p.xb≠p.mb:=by
 obtain⟨_,_,_,_,_,e⟩:=h.xcells
 exact VH e h.blk (by decide)
theorem Z2.xc (h:Z2 B F w p):p.xb≠p.cb:=by
 obtain⟨_,_,_,_,_,e⟩:=h.xcells
 exact VH e h.cbk (by decide)
theorem Z2.mc (h:Z2 B F w p):p.mb≠p.cb:=VH h.blk h.cbk (by decide)
theorem Z2.open (h:Z2 B F w p) (hd:¬ p.dn=true):w.heap[p.xb]? = some (ZE p.mb 1 p.iv 0 .nilIface false)∧w.ownsRow B 5 1 p.iv p.s.size (strCells p.s):=by
 have:=h.rd
 unfold Pr.rd at this
 rw[if_neg hd] at this
 exact this
theorem Z2.shut (h:Z2 B F w p) (hd:p.dn=true):p.iv = .slice none 0 0∧∃ o,(∀ h : 0<p.g.length,Ev p.g p.s.data.toList (.C p.g[0].choice) 0 o)∧w.heap[p.xb]? = some (rdU p.mb 2 (.slice none 0 0) o):=by
 have:=h.rd
 unfold Pr.rd at this
 rw[if_pos hd] at this
 exact this
theorem Z2.shutC (h:Z2 B F w p) (hd:p.dn=true):∃ c nv ok,w.heap[p.xb]? = some (ZE p.mb 2 (.slice none 0 0) c nv ok):=by
 obtain⟨_,o,_,ho⟩:=h.shut hd
 obtain⟨c,nv,e⟩:=zcc p.mb 2 (.slice none 0 0) o
 rw[e] at ho
 exact⟨_,_,_,ho⟩
theorem ziY (s q:ByteArray):strCells (s++q)=strCells s++strCells q:=by
 simp[strCells,ByteArray.data_append]
def YR (p:Pr) (q:ByteArray):Int:=if p.dn=true then 10 else if 200<p.s.size+q.size then 9 else 0
theorem zeQ (h:Z2 B F w p) (hB:B≤w.heap.size) (q:ByteArray) (hq:q.size≤281474976710656) :
    Calls Tryz.prog 33 #[z9 p.xb,.string q] w fun e w1=>e = .returned (.int .i64 (YR p q))∧GrW w w1 p.mut ∧
      Calls Tryz.prog 114 #[z9 p.cb,.string q] w1 fun e' w2=>e' = .returned (.int .i64 (YR p q))∧Nxt B F w w2 p:=by
  by_cases hd:p.dn=true
  · obtain⟨c,nv,ok,hx⟩:=h.shutC hd
    refine (zc5 (s:=⟨#[]⟩) (B:=B) hx (by decide) hq (World.ownsRow_nil _ _ _ _) hB (by simp[Value.ownBlock])).mono ?_
    intro e w1 h1
    unfold Kq at h1
    rw[if_neg (by decide)] at h1
    obtain⟨rfl,rfl⟩:=h1
    refine⟨by rw[YR,if_pos hd],GrW.refl _ _,(zam h.cbk h.ssz hq).mono ?_⟩
    intro e' w2 h2
    unfold Kx at h2
    rw[if_pos hd] at h2
    obtain⟨rfl,rfl⟩:=h2
    exact⟨by rw[YR,if_pos hd],h.still⟩
  · obtain⟨hx,hown⟩:=h.open hd
    have hne:∀ b cs T,w.heap[b]? = some (.cells cs T (0,0))→T≠5→p.iv.ownBlock≠some b:=fun b cs T hb hT e=>by
      obtain⟨cur,hc⟩:=Zr hown e
      exact VH hb hc hT rfl
    refine (zc5 hx h.ssz hq hown hB (hne _ _ _ hx (by decide))).mono ?_
    intro e w1 h1
    unfold Kq at h1
    rw[if_pos rfl] at h1
    by_cases hlong : 200<p.s.size+q.size
    · rw[if_pos hlong] at h1
      obtain⟨rfl,rfl⟩:=h1
      refine⟨by rw[YR,if_neg hd,if_pos hlong],GrW.refl _ _,(zam h.cbk h.ssz hq).mono ?_⟩
      intro e' w2 h2
      unfold Kx at h2
      rw[if_neg hd,if_pos hlong] at h2
      obtain⟨rfl,rfl⟩:=h2
      exact⟨by rw[YR,if_neg hd,if_pos hlong],h.still⟩
    · rw[if_neg hlong] at h1
      obtain⟨rfl,iv',hx1,hown1,hg1,hiv⟩:=h1
      have hcb1:w1.heap[p.cb]? = some (QK p.t p.s p.dn):=by
        rw[hg1.block _ (zd h.cbk) (by
          rintro (e | e)
          · exact h.xc e.symm
          · exact hne _ _ _ h.cbk (by decide) e)]
        exact h.cbk
      have hmb1:w1.heap[p.mb]? = some (Zz p.vr ⟨#[]⟩ (.map none) .nilIface):=by
        rw[hg1.block _ (zd h.blk) (by
          rintro (e | e)
          · exact h.xm e.symm
          · exact hne _ _ _ h.blk (by decide) e)]
        exact h.blk
      have hG1:GrW w w1 p.mut:=hg1.imp (by
        rintro x (e | e)
        · exact .inl e
        · exact .inr (.inr (.inr e)))
      refine⟨by rw[YR,if_neg hd,if_neg hlong],hG1,(zam hcb1 h.ssz hq).mono ?_⟩
      intro e' w2 h2
      unfold Kx at h2
      rw[if_neg hd,if_neg hlong] at h2
      obtain⟨rfl,hcb2,hk2⟩:=h2
      have hG : GrW w w2 p.mut := hG1.trans (hk2.grw (by
          intro x hx
          simp only[List.mem_singleton] at hx
          exact .inr (.inr (.inl hx))))
      have hmb2:w2.heap[p.mb]? = some (Zz p.vr ⟨#[]⟩ (.map none) .nilIface):=by
        rw[hk2.block _ (zd hmb1) (by simp only[List.mem_singleton];exact h.mc)]
        exact hmb1
      have hx2:w2.heap[p.xb]? = some (ZE p.mb 1 iv' 0 .nilIface false):=by
        rw[hk2.block _ (zd hx1) (by simp only[List.mem_singleton];exact h.xc)]
        exact hx1
      have hown2:w2.ownsRow B 5 1 iv' (p.s.size+q.size) (strCells p.s++strCells q):=Z6 hown1 (fun g hg=>hk2.block g (hown1.lt g hg).2 (by
        simp only[List.mem_singleton]
        rintro rfl
        obtain⟨cur,hc⟩:=Zr hown1 hg
        exact VH hcb1 hc (by decide) rfl))
      refine⟨by rw[YR,if_neg hd,if_neg hlong],hG,{ p with s:=p.s++q,dn:=false,iv:=iv' },rfl,h.upd hG (by rw[ByteArray.size_append];omega) hmb2 hcb2 ?_ ?_⟩
      · unfold Pr.rd
        rw[if_neg (by simp)]
        refine⟨hx2,?_⟩
        simp only[ByteArray.size_append,ziY]
        exact hown2
      · intro x hx
        rcases hiv with e | ⟨g,e,hg⟩
        · exact .inl (by rw[← e];exact hx)
        · rw[e] at hx;cases hx
          exact .inr hg
theorem zeJ (h:Z2 B F w p):∃ (a:Int) (b:Bool) (c:Int),
    Calls Tryz.prog 35 #[z9 p.xb] w fun e w1=>e = .returned (.tuple #[.int .i64 a,.bool b,.int .i64 c])∧GrW w w1 p.mut ∧
      Calls Tryz.prog 115 #[z9 p.cb] w1 fun e' w2=>e' = .returned (.tuple #[.int .i64 a,.bool b,.int .i64 c])∧Nxt B F w w2 p:=by
  obtain⟨r,hr⟩:=h.all.pread
  have hs2:p.s.size≤maxLen:=by have:=h.ssz;unfold maxLen;omega
  by_cases hd:p.dn=true
  · obtain⟨c,nv,ok,hx⟩:=h.shutC hd
    refine⟨0,false,10,(zh7 hx (by decide)).mono ?_⟩
    rintro e w1 ⟨rfl,rfl⟩
    refine⟨rfl,GrW.refl _ _,(zcj h.cbk h.tsz hs2 r hr).mono ?_⟩
    intro e' w2 h2
    unfold Kw at h2
    rw[if_pos hd] at h2
    obtain⟨rfl,rfl⟩:=h2
    exact⟨rfl,h.still⟩
  · obtain⟨hx,hown⟩:=h.open hd
    have hgp:=h.all.ends.pos
    obtain⟨o,ho⟩:=qh (inp:=p.s.data.toList) h.all.ends
    have hle:zN o≤1000000:=by
      cases o with
      | none=>exact Nat.zero_le _
      | some x=>
        have h1:=(ho.le (Nat.zero_le _) x.1 x.2 rfl).2
        have h2:p.s.data.toList.length=p.s.size:=rfl
        have h3:=h.ssz
        simp only[zN];omega
    refine⟨zN o,o.isSome,0,(zh8 hx h.ssz hown h.ted h.blk h.dnr hgp h.all.rules20 o ho hle h.xm).mono ?_⟩
    rintro e w1 ⟨rfl,hx1,hm1,hk1⟩
    have hcb1:w1.heap[p.cb]? = some (QK p.t p.s p.dn):=by
      rw[hk1.block _ (zd h.cbk) (by
        simp only[List.mem_cons,List.not_mem_nil,or_false]
        rintro (e | e)
        · exact h.xc e.symm
        · exact h.mc e.symm)]
      exact h.cbk
    have hG1:GrW w w1 p.mut:=hk1.grw (by
      intro x hx
      simp only[List.mem_cons,List.not_mem_nil,or_false] at hx
      rcases hx with e | e
      · exact .inl e
      · exact .inr (.inl e))
    refine⟨rfl,hG1,(zcj hcb1 h.tsz hs2 r hr).mono ?_⟩
    intro e' w2 h2
    unfold Kw at h2
    rw[if_neg hd] at h2
    obtain⟨x,y,z,rfl,hI,hcb2,hk2⟩:=h2
    have hMI:Ys p.t.data.toList p.s (.int .i64 (zN o)) (.bool o.isSome) (.int .i64 0):=by
      refine⟨.ok (p.g,p.E),h.all,?_⟩
      simp only[]
      rw[if_neg (by have:=h.ssz;omega)]
      refine⟨o,fun _=>ho,?_⟩
      cases o<;>simp[fin,zN]
    obtain⟨ha,hb,hc⟩:=hMI.det hI
    subst ha
    subst hb
    subst hc
    have hG : GrW w w2 p.mut := hG1.trans (hk2.grw (by
        intro x hx
        simp only[List.mem_singleton] at hx
        exact .inr (.inr (.inl hx))))
    have hmb2:w2.heap[p.mb]? = some (Zz p.vr ⟨#[]⟩ (.map none) .nilIface):=by
      rw[hk2.block _ (zd hm1) (by simp only[List.mem_singleton];exact h.mc)]
      exact hm1
    have hx2:w2.heap[p.xb]? = some (rdU p.mb 2 (.slice none 0 0) o):=by
      rw[hk2.block _ (zd hx1) (by simp only[List.mem_singleton];exact h.xc)]
      exact hx1
    refine⟨rfl,hG,{ p with s:=p.s,dn:=true,iv:=.slice none 0 0 },rfl,h.upd hG h.ssz hmb2 hcb2 ?_ ?_⟩
    · unfold Pr.rd
      rw[if_pos rfl]
      exact⟨rfl,o,fun _=>ho,hx2⟩
    · intro x hx
      simp[Value.ownBlock] at hx
theorem zgS (h:Z2 B F w p):∃ (L:List Nod) (er:Int),L.length≤5000 ∧
  Calls Tryz.prog 34 #[z9 p.xb] w fun e w1=>Below w.heap.size w w1∧∃ a c,e = .returned (.tuple #[.slice a L.length c,.int .i64 er])∧Y0 w1 w.heap.size (.slice a L.length c) L ∧
   Calls Tryz.prog 116 #[z9 p.cb] w1 fun e' w2=>Below w1.heap.size w1 w2∧∃ a2 c2,e' = .returned (.tuple #[.slice a2 L.length c2,.int .i64 er])∧Y0 w2 w1.heap.size (.slice a2 L.length c2) L:=by
 obtain⟨r,hr⟩:=h.all.pread
 have hs2:p.s.size≤maxLen:=by have:=h.ssz;unfold maxLen;omega
 by_cases hd:p.dn=true
 ·obtain⟨_,o,ho,hx⟩:=h.shut hd
  have hgp:=h.all.ends.pos
  have hsl:p.s.data.toList.length≤200:=h.ssz
  have hns:¬ 200<p.s.size:=by have:=h.ssz;omega
  have hwf:∀ x,o=some x→wfN x.2∧szN x.2≤900000:=by
   rintro x rfl
   have h1:=qj h.all.ends h.all.rules20 hsl ho
   exact⟨(ho hgp).wf trivial x.1 x.2 rfl,by omega⟩
  cases o with
  | none=>
   refine⟨[],0,by simp,(zc8 hx hwf).mono ?_⟩
   rintro e w1 ⟨rfl,rfl⟩
   refine⟨Below.refl _ _,none,0,rfl,World.ownsRow_nil _ _ _ _,(zao h.cbk h.tsz hs2 r hr).mono ?_⟩
   intro e' w2 h2
   unfold V9 at h2
   rw[if_pos hd] at h2
   obtain⟨hb2,v,c,rfl,hI⟩:=h2
   have hJ:Yw p.t.data.toList p.s w1.heap.size w1 (.slice none 0 0) (.int .i64 0):=by
    refine⟨.ok (p.g,p.E),h.all,?_⟩
    simp only[]
    rw[if_neg hns]
    exact⟨none,ho,by first | rfl | trivial,by first | rfl | trivial⟩
   obtain⟨L,er,hL,hc,hc2,hN,hN2⟩:=hJ.both hI
   cases hc
   subst hc2
   obtain⟨_,_,hnf⟩:=zl hN
   have hL0:L=[]:=by
    simp at hnf
    exact List.length_eq_zero_iff.1 hnf.2.1.symm
   subst hL0
   obtain⟨a2,c2,rfl⟩:=zl hN2
   exact⟨hb2,a2,c2,rfl,hN2⟩
  | some x=>
   refine⟨K0 x,0,?_,(zc8 hx hwf).mono ?_⟩
   ·have hsm:=qj h.all.ends h.all.rules20 hsl ho
    simp only[K0,List.length_cons,YS];omega
   rintro e w1 ⟨a,c,rfl,hN,hb1⟩
   have hcb1:w1.heap[p.cb]? = some (QK p.t p.s p.dn):=by
    rw[hb1.block _ (zd h.cbk)]
    exact h.cbk
   refine⟨hb1,a,c,rfl,hN,(zao hcb1 h.tsz hs2 r hr).mono ?_⟩
   intro e' w2 h2
   unfold V9 at h2
   rw[if_pos hd] at h2
   obtain⟨hb2,v,c2,rfl,hI⟩:=h2
   obtain⟨res,hP,hE⟩:=hI
   have:=hP.det h.all
   subst this
   simp only[] at hE
   rw[if_neg hns] at hE
   obtain⟨o2,ho2,rfl,h3⟩:=hE
   have:=(ho2 hgp).det _ (ho hgp)
   subst this
   obtain⟨a2,cp2,rfl,hN2⟩:=h3
   exact⟨hb2,a2,cp2,rfl,hN2⟩
 ·obtain⟨hx,hown⟩:=h.open hd
  refine⟨[],11,by simp,(zhl hx (by decide)).mono ?_⟩
  rintro e w1 ⟨rfl,rfl⟩
  refine⟨Below.refl _ _,none,0,rfl,World.ownsRow_nil _ _ _ _,(zao h.cbk h.tsz hs2 r hr).mono ?_⟩
  intro e' w2 h2
  unfold V9 at h2
  rw[if_neg hd] at h2
  obtain⟨rfl,rfl⟩:=h2
  exact⟨Below.refl _ _,none,0,rfl,World.ownsRow_nil _ _ _ _⟩
def Ky (p:Pr):Int:=if p.dn=true then 0 else 11
theorem zdL (h:Z2 B F w p) :
    Calls Tryz.prog 36 #[z9 p.xb] w fun e w1=>e = .returned (.int .i64 (Ky p))∧GrW w w1 p.mut ∧
      Calls Tryz.prog 117 #[z9 p.cb] w1 fun e' w2=>e' = .returned (.int .i64 (Ky p))∧Nxt B F w w2 p:=by
  by_cases hd:p.dn=true
  · obtain⟨c,nv,ok,hx⟩:=h.shutC hd
    refine (zc3 hx).mono ?_
    rintro e w1 ⟨hk1,h1⟩
    rw[if_pos rfl] at h1
    obtain⟨rfl,hx1⟩:=h1
    have hcb1:w1.heap[p.cb]? = some (QK p.t p.s p.dn):=by
      rw[hk1.block _ (zd h.cbk) (by simp only[List.mem_singleton];exact fun e=>h.xc e.symm)]
      exact h.cbk
    have hmb1:w1.heap[p.mb]? = some (Zz p.vr ⟨#[]⟩ (.map none) .nilIface):=by
      rw[hk1.block _ (zd h.blk) (by simp only[List.mem_singleton];exact fun e=>h.xm e.symm)]
      exact h.blk
    have hG1:GrW w w1 p.mut:=hk1.grw (by
      intro x hx
      simp only[List.mem_singleton] at hx
      exact .inl hx)
    refine⟨by rw[Ky,if_pos hd],hG1,(zc9 hcb1).mono ?_⟩
    intro e' w2 h2
    unfold qA at h2
    rw[if_pos hd] at h2
    obtain⟨rfl,hcb2,hk2⟩:=h2
    have hG : GrW w w2 p.mut := hG1.trans (hk2.grw (by
        intro x hx
        simp only[List.mem_singleton] at hx
        exact .inr (.inr (.inl hx))))
    have hmb2:w2.heap[p.mb]? = some (Zz p.vr ⟨#[]⟩ (.map none) .nilIface):=by
      rw[hk2.block _ (zd hmb1) (by simp only[List.mem_singleton];exact h.mc)]
      exact hmb1
    have hx2:w2.heap[p.xb]? = some (ZE p.mb 1 (.slice none 0 0) 0 .nilIface false):=by
      rw[hk2.block _ (zd hx1) (by simp only[List.mem_singleton];exact h.xc)]
      exact hx1
    refine⟨by rw[Ky,if_pos hd],hG,{ p with s:=⟨#[]⟩,dn:=false,iv:=.slice none 0 0 },rfl,h.upd hG (by decide) hmb2 hcb2 ?_ ?_⟩
    · unfold Pr.rd
      rw[if_neg (by simp)]
      exact⟨hx2,World.ownsRow_nil _ _ _ _⟩
    · intro x hx
      simp[Value.ownBlock] at hx
  · obtain⟨hx,hown⟩:=h.open hd
    refine (zc3 hx).mono ?_
    rintro e w1 ⟨hk1,h1⟩
    rw[if_neg (by decide)] at h1
    obtain⟨rfl,rfl⟩:=h1
    refine⟨by rw[Ky,if_neg hd],GrW.refl _ _,(zc9 h.cbk).mono ?_⟩
    intro e' w2 h2
    unfold qA at h2
    rw[if_neg hd] at h2
    obtain⟨rfl,rfl⟩:=h2
    exact⟨by rw[Ky,if_neg hd],h.still⟩
theorem Z2.new {t:ByteArray} {w w1 w2:World} {g:List ze} {E:List Bool} {xb mb cb:Nat} {N:List Nd} {bx:List (Nat × Nat × Nat)} {rs:List Nat} {vr:Value} {S:Nat→Prop} (ht:t.size≤maxLen) (hP:Zo t.data.toList (.ok (g,E))) (hM:qx w.heap.size g w w1 mb N bx rs vr S) (hx:w1.heap[xb]? = some (ZE mb 1 (.slice none 0 0) 0 .nilIface false)) (hge:w.heap.size≤xb) (hS:¬ S xb) (hb2:Below w1.heap.size w1 w2) (hb1:Below w.heap.size w w1) (hc:w2.heap[cb]? = some (QK t ⟨#[]⟩ false)) (hcg:w1.heap.size≤cb) (hB:B≤w.heap.size) :
  Z2 B (fun x=>w.heap.size≤x) w2 ⟨xb,cb,mb,N,bx,rs,vr,S,t,g,E,⟨#[]⟩,false,.slice none 0 0⟩:=by
 refine⟨ht,hP,hM.ted.below hb2,by rw[hb2.block _ (zd hM.blk)];exact hM.blk,hM.dn,by show (0:Nat)≤200;omega,hc,?_,?_,?_⟩
 ·unfold Pr.rd
  rw[if_neg (by simp)]
  exact⟨by rw[hb2.block _ (zd hx)];exact hx,World.ownsRow_nil _ _ _ _⟩
 ·have hz:=hb1.size
  rintro x (rfl | rfl | rfl | e)
  ·exact⟨hge,hS⟩
  ·exact⟨hM.mge,hM.ted.nm⟩
  ·exact⟨by first | omega | (show w.heap.size≤_;exact Nat.le_trans hz hcg),fun h=>Nat.lt_irrefl _ (Nat.lt_of_lt_of_le (hM.ted.lt _ h) hcg)⟩
  ·simp[Value.ownBlock] at e
 ·intro x hx
  rcases hM.gr x hx with h1 | ⟨cu,h1⟩
  ·exact .inl h1
  ·have hl:=zd h1
   refine .inr ⟨cu,?_⟩
   rw[hb2.block x (by have:=hb1.size;omega),hb1.block x hl]
   exact h1
end
end Go.Proofs.YtiganlkabilblaaGreatDoor
namespace Go.Proofs.YtiganlkabilblaaGreatDoor
open Go.RowKit
def YY (c:Int) (n:Nat):Nat:=(if c<0 then -(c+1) else c).toNat % n
theorem zh9 (c:Int) {n:Nat} (h : 0<n):YY c n<n:=Nat.mod_lt _ h
def i64 (c:Int):Prop:=-9223372036854775808≤c∧c<9223372036854775808
theorem zd7 (k:Int) (n:Nat) (hk : 0≤k):k.tmod n = ↑(k.toNat % n):=by
 obtain⟨m,rfl⟩:=Int.eq_ofNat_of_zero_le hk
 rw[← Int.ofNat_tmod];rfl
theorem zha (c:Int) (n:Nat) (h:c<0) : -(c+1).tmod n = ↑(YY c n):=by
 rw[← Int.neg_tmod,zd7 _ _ (by omega)];simp only[YY,h,if_true]
theorem zhb (c:Int) (n:Nat) (h : 0≤c):c % n = ↑(YY c n):=by
 rw[← Int.tmod_eq_emod_of_nonneg h,zd7 _ _ h];simp only[YY,show ¬ c<0 by omega,if_false]
end Go.Proofs.YtiganlkabilblaaGreatDoor
namespace Go.Proofs.YtiganlkabilblaaGreatDoor
open Go.RowKit Thk Go.Lib
attribute [local go_sem ↓] Go.wp_at_zero Go.wp_at_succ
theorem zg2 (c:Int) (n:Nat) (w:World) (hc:i64 c) (h0 : 0<n) (hn:n≤5000000000000) :
  Calls Tryz.prog 79 #[.int .i64 c,.int .i64 n] w fun e w'=>e = .returned (.int .i64 ↑(YY c n))∧w'=w:=by
 obtain⟨h1,h2⟩:=hc
 have hne:(n:Int)≠0:=by omega
 go_enter Tryz.func79,Tryz.ntmps79
 go_wp2
 all_goals go_ret
 ·exact⟨by rw[← zha c n (by assumption)];rfl,rfl⟩
 ·exact⟨by rw[← zhb c n (by assumption)];rfl,rfl⟩
theorem Tryz.infoPair:(Tryz.prog.info? 167).map (fun i=>(i.zero,i.size,i.bytes))=some (some (.agg #[.pointer none,.pointer none]),2,16):=by kernel_rfl
section
variable {w0 w : World} {yb : Nat} {o : Nat → Nat} {ps : List Pr} {nbs : List Nat}
def U5 (w0:World) (yb:Nat) (ps:List Pr) (nbs:List Nat) (w':World):Prop:=∃ o' ps',ZA w0 yb o' ps' nbs w'∧ps'.length≤ps.length+1
theorem zh3 {w1 w2 w5:World} {vp va:Value} {p:Pr} {g3 cap3:Nat} {O:Obj} (h:ZA w0 yb o ps nbs w) (e1:w.heap[yb]? = some (plO vp va (.slice none 0 0))) (e2:w.ownsRow w0.heap.size 167 2 vp ps.length (ps.flatMap Qe)) (e3:w.ownsRow w0.heap.size 163 1 va nbs.length (nbs.map Jy)) (e4:∀ x,vp.ownBlock=some x→o x=0) (e5:∀ x,va.ownBlock=some x→o x=0)
    (hb2:Below w.heap.size w w2) (hp:Z2 w0.heap.size (fun x=>w.heap.size≤x) w2 p)
    (hown:w5.ownsRow w0.heap.size 167 2 (.slice (some ⟨g3,0,none⟩) (ps.length+1) cap3) (ps.length+1) (ps.flatMap Qe++Qe p)) (hgrow:(w2.alloc O).grownBy w5 vp.ownBlock) (hat:vp.ownBlock=some g3∨g3=w2.heap.size+1):U5 w0 yb ps nbs (w5.setCell ⟨yb,0,none⟩ (.slice (some ⟨g3,0,none⟩) (ps.length+1) cap3)):=by
  have hyl:=zd e1
  have hz2:=hb2.size
  have hz5:=hgrow.size
  simp at hz5
  have hny:vp.ownBlock≠some yb:=fun e=>by
    obtain⟨cur,hc⟩:=Zr e2 e
    rw[e1] at hc;simp at hc
  have hy2:w2.heap[yb]? = some (plO vp va (.slice none 0 0)):=by rw[hb2.block yb hyl];exact e1
  have hy5:w5.heap[yb]? = some (plO vp va (.slice none 0 0)):=YC hgrow hy2 (fun e=>hny e.symm)
  have hgy:g3≠yb:=by
    rintro rfl
    obtain⟨cur,hc⟩:=Zr hown rfl
    rw[hy5] at hc;simp at hc
  obtain ⟨o', h'⟩ := h.more (w' := w5.setCell ⟨yb, 0, none⟩ (.slice (some ⟨g3, 0, none⟩) (ps.length + 1) cap3)) (vp' := .slice (some ⟨g3, 0, none⟩) (ps.length + 1) cap3) e1 e2 e3 e4 e5 hb2 hp ⟨hgrow.os, hgrow.tape, hgrow.output, by simp [World.setCell]; omega, fun x hx hr => by
      rw[Below.heap_setCell _ _ _ _ (fun e=>hr (.inl e)),hgrow.block x (by simp;omega) (fun e=>hr (.inr e.symm)),zm _ _ hx]⟩ (by rw[zo hy5];rfl) (zc0 hown (fun e=>hgy (Option.some.inj e))) (by
      rcases hat with e | e
      · exact .inl e.symm
      · exact .inr ⟨g3,rfl,by omega⟩)
  exact⟨o',_,h',by simp⟩
theorem zh2 (h:ZA w0 yb o ps nbs w) (t:ByteArray) (ht:t.size≤maxLen) (hg:QD w0) (hps:ps.length≤5000000000000) :
  Calls Tryz.prog 77 #[z9 yb,.string t] w fun e w'=>e = .returned (.bool true)∧U5 w0 yb ps nbs w':=by
 have hpn:=zhk t w ht (hg.below h.bel)
 have HH:=z6 h
 clear h hg
 go_enter Tryz.func77,Tryz.ntmps77
 go_wp2_with fail
 refine hpn.mono ?_
 rintro e w1 ⟨hb1,res,hP,hE⟩
 obtain⟨r,hr⟩:=hP.pread
 have HRN:=z6 (zhZ t w1 ht r hr)
 have HB1:=z6 hb1
 have HP:=z6 hP
 clear hpn hb1 hP hr
 cases res with
 | error x=>
  obtain⟨er,p⟩:=x
  obtain⟨h0,rfl⟩:=hE
  go_wp2_with fail
  refine HRN.out.mono ?_
  rintro e w2 ⟨hb2,res2,hP2,hE2⟩
  have:=HP.out.det hP2
  subst this
  obtain⟨_,rfl⟩:=hE2
  have HZ:Hid (U5 w0 yb ps nbs w2):=z6 ⟨o,ps,HH.out.below (HB1.out.trans (hb2.mono HB1.out.size)),by omega⟩
  clear hb2 hP2 HRN
  go_wp2_with fail
  go_ret
  exact⟨rfl,HZ.out⟩
 | ok y=>
  obtain⟨g,E⟩:=y
  obtain⟨hgl,rb,mb,N,bx,rs,vr,S,rfl,hM,hx,hge,hne,hS⟩:=hE
  have HM:=z6 hM
  have HX:=z6 hx
  have HS:=z6 hS
  clear hM hx hS
  go_wp2_with fail
  refine HRN.out.mono ?_
  rintro e w2 ⟨hb2,res2,hP2,hE2⟩
  have:=HP.out.det hP2
  subst this
  obtain⟨cb,rfl,hc,hcg⟩:=hE2
  obtain⟨vp,va,e1,e2,e3,e4,e5⟩:=HH.out.ex
  have hB2:Below w.heap.size w w2:=HB1.out.trans (hb2.mono HB1.out.size)
  have HNP:=z6 (Z2.new (B:=w0.heap.size) ht HP.out HM.out HX.out hge HS.out hb2 HB1.out hc hcg HH.out.bel.size)
  have HFN:Hid (∀ w5 g3 cap3,w5.ownsRow w0.heap.size 167 2 (.slice (some ⟨g3,0,none⟩) (ps.length+1) cap3) (ps.length+1) (ps.flatMap Qe++[z9 rb,z9 cb])→(w2.alloc (pbO rb cb)).grownBy w5 vp.ownBlock→(vp.ownBlock=some g3∨g3=w2.heap.size+1)→U5 w0 yb ps nbs (w5.setCell ⟨yb,0,none⟩ (.slice (some ⟨g3,0,none⟩) (ps.length+1) cap3))):=z6 (fun w5 g3 cap3 h1 h2 h3=>zh3 (w1:=w1) HH.out e1 e2 e3 e4 e5 hB2 HNP.out h1 h2 h3)
  have hyl:=zd e1
  have hz2:=hB2.size
  have hy2:w2.heap[yb]? = some (plO vp va (.slice none 0 0)):=by rw[hB2.block yb hyl];exact e1
  have hown2:=Zv e2 hB2
  obtain⟨ap,cp,rfl⟩:=zl e2
  have HNY:Hid (some yb≠(Value.slice ap ps.length cp).ownBlock):=z6 (fun e=>by
   obtain⟨cur,hc⟩:=Zr e2 e.symm
   rw[e1] at hc;simp at hc)
  have HOWN:=z6 hown2
  have HY2:=z6 hy2
  have y0:w2.cell? ⟨yb,0,none⟩=some (.slice ap ps.length cp):=z8 hy2 0
  have hyl2:=za hy2
  have hB0:w0.heap.size≤w2.heap.size:=by have:=HH.out.bel.size;omega
  have HML:Hid (ps.length+1≤maxLen):=by show _≤_;unfold maxLen;omega
  obtain⟨i0,hi0,hz0,hz1,hz2'⟩:=info_parts Tryz.infoPair
  clear hb2 hP2 HRN HB1 hB2 hc e1 e2 e3 e4 e5 hown2 hy2 HNP HM HX HS HH
  go_wp2_with (first | (at_builtin;refine wpList_append_lies _ rfl _ _ 30 rfl w0.heap.size 167 i0 _ 2 16 Tryz.underlying30 hi0 hz0 hz1 hz2' rfl (by decide) _ _ _ rfl (HOWN.out.alloc _) ⟨w2.heap.size,0,none⟩ 1 1 [z9 rb,z9 cb] rfl rfl (World.news_of_block (zk w2 _)) (by intro u hu;simp at hu;rcases hu with rfl | rfl<;>rfl) (by decide) HML.out (by omega) (by simp;omega) (w2.heap.size+1) (by simp) ?_))
  intro g3 cap3 w5 hown hgrow hat hlt3
  have hy5:=YC hgrow HY2.out HNY.out
  have y1:=z8 hy5 0
  have y2:=zi hy5 0
  have y3:=za hy5
  have HZ:=z6 (HFN.out w5 g3 cap3 hown hgrow hat)
  clear hown hgrow hat hlt3 hy5 y0
  go_wp2_with fail
  go_ret
  exact⟨rfl,HZ.out⟩
end
end Go.Proofs.YtiganlkabilblaaGreatDoor
