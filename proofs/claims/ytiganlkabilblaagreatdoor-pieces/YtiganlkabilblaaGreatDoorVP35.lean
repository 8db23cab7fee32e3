import Derived.Test.YtiganlkabilblaaGreatDoorVP34
import Derived.Test.YtiganlkabilblaaGreatDoorVP31
import Derived.Test.YtiganlkabilblaaGreatDoorVP32
import Derived.BigQuiet
import Derived.Test.YtiganlkabilblaaGreatDoorRows
import Derived.WalkKit
import Derived.ProofKit
import Derived.OpenShut
import Derived.ShutString
import Derived.ChangeMaps5
import Derived.ChangeOld
import Derived.Below
import Derived.ChangeSame
import Derived.ChangeVars
import Derived.JoinedOf
import Derived.RowKit
import Derived.RowKitTokens
import Derived.LaidLaws
import Derived.LaidHandle
import Derived.Stop.Joined
import Derived.Test.YtiganlkabilblaaGreatDoorTie
import Derived.Test.YtiganlkabilblaaGreatDoorCards
import Derived.SevenTiedAt
set_option linter.all false
set_option maxHeartbeats 64000000
set_option maxRecDepth 100000
namespace Go.Proofs.YtiganlkabilblaaGreatDoor
open Go.RowKit Thk Go.Lib
def Pr.mux (p:Pr) (x:Nat):Prop:=x=p.xb∨x=p.mb∨p.iv.ownBlock=some x
structure z3 (B:Nat) (w:World) (p:Pr):Prop where
 all:Zo p.t.data.toList (.ok (p.g,p.E))
 ted:Jv w p.mb p.N p.bx p.rs p.vr p.S
 blk:w.heap[p.mb]? = some (Zz p.vr ⟨#[]⟩ (.map none) .nilIface)
 dnr:DnR p.N p.rs p.g
 ssz:p.s.size≤200
 rd:p.rd B w
 mu:∀ x,p.mux x→B≤x∧¬ p.S x
section
variable {B : Nat} {w : World} {p : Pr}
theorem z3.opn (h:z3 B w p) (hd:p.dn=false):w.heap[p.xb]? = some (ZE p.mb 1 p.iv 0 .nilIface false)∧w.ownsRow B 5 1 p.iv p.s.size (strCells p.s):=by
 have:=h.rd
 unfold Pr.rd at this
 rw[if_neg (by simp[hd])] at this
 exact this
theorem z3.sht (h:z3 B w p) (hd:p.dn=true):p.iv = .slice none 0 0∧∃ o,(∀ h : 0<p.g.length,Ev p.g p.s.data.toList (.C p.g[0].choice) 0 o)∧w.heap[p.xb]? = some (rdU p.mb 2 (.slice none 0 0) o):=by
 have:=h.rd
 unfold Pr.rd at this
 rw[if_pos hd] at this
 exact this
theorem z3.shtC (h:z3 B w p) (hd:p.dn=true):∃ c nv ok,w.heap[p.xb]? = some (ZE p.mb 2 (.slice none 0 0) c nv ok):=by
 obtain⟨_,o,_,ho⟩:=h.sht hd
 obtain⟨c,nv,e⟩:=zcc p.mb 2 (.slice none 0 0) o
 rw[e] at ho
 exact⟨_,_,_,ho⟩
theorem z3.below {w':World} (h:z3 B w p) (hb:Below w.heap.size w w'):z3 B w' p:=by
 refine⟨h.all,h.ted.below hb,by rw[hb.block _ (zd h.blk)];exact h.blk,h.dnr,h.ssz,?_,h.mu⟩
 have hr:=h.rd
 unfold Pr.rd at hr ⊢
 by_cases hd:p.dn=true
 ·rw[if_pos hd] at hr ⊢
  obtain⟨h1,o,h2,h3⟩:=hr
  exact⟨h1,o,h2,by rw[hb.block _ (zd h3)];exact h3⟩
 ·rw[if_neg hd] at hr ⊢
  exact⟨by rw[hb.block _ (zd hr.1)];exact hr.1,Zv hr.2 hb⟩
theorem z3.upd {w':World} (h:z3 B w p) (hg:GrW w w' p.mux) (hB:B≤w.heap.size) {s':ByteArray} {dn':Bool} {iv':Value} (hs:s'.size≤200) (hb:w'.heap[p.mb]? = some (Zz p.vr ⟨#[]⟩ (.map none) .nilIface)) (hr:Pr.rd B w' { p with s:=s',dn:=dn',iv:=iv' }) (hi:∀ x,iv'.ownBlock=some x→p.iv.ownBlock=some x∨w.heap.size≤x):z3 B w' { p with s:=s',dn:=dn',iv:=iv' }∧Below B w w':=by
 refine⟨⟨h.all,h.ted.same hg.size (fun x hx=>hg.block x (h.ted.lt x hx) (fun hm=>(h.mu x hm).2 hx)),hb,h.dnr,hs,hr,?_⟩,hg.belowOf hB (fun x hx=>(h.mu x hx).1)⟩
 rintro x (rfl | rfl | hx)
 ·exact h.mu _ (.inl rfl)
 ·exact h.mu _ (.inr (.inl rfl))
 ·rcases hi x hx with h1 | h1
  ·exact h.mu _ (.inr (.inr h1))
  ·exact⟨by omega,fun hS=>by have:=h.ted.lt x hS;omega⟩
theorem zk5 {w:World} {a b:Nat} {cs ds:Array Value} {T U:TypeId} (ha:w.heap[a]? = some (.cells cs T (0,0))) (hb:w.heap[b]? = some (.cells ds U (0,0))) (h:T≠U):a≠b:=by
 rintro rfl
 rw[ha] at hb
 simp at hb
 exact h hb.2
theorem zlw (s q:ByteArray):strCells (s++q)=strCells s++strCells q:=by
 simp[strCells,ByteArray.data_append]
theorem zl1 (h:z3 B w p) (hd:p.dn=false) (hB:B≤w.heap.size) (q:ByteArray) (hq:p.s.size+q.size≤200) :
  Calls Tryz.prog 33 #[z9 p.xb,.string q] w fun e w1=>e = .returned (.int .i64 0)∧Below B w w1∧∃ iv',z3 B w1 { p with s:=p.s++q,dn:=false,iv:=iv' }:=by
 obtain⟨hx,hown⟩:=h.opn hd
 have hne:∀ b cs T,w.heap[b]? = some (.cells cs T (0,0))→T≠5→p.iv.ownBlock≠some b:=fun b cs T hb hT e=>by
  obtain⟨cur,hc⟩:=Zr hown e
  exact zk5 hb hc hT rfl
 refine (zc5 hx h.ssz (by omega) hown hB (hne _ _ _ hx (by decide))).mono ?_
 intro e w1 h1
 unfold Kq at h1
 rw[if_pos rfl,if_neg (by omega)] at h1
 obtain⟨rfl,iv',hx1,hown1,hg1,hiv⟩:=h1
 have hmb1:w1.heap[p.mb]? = some (Zz p.vr ⟨#[]⟩ (.map none) .nilIface):=by
  rw[hg1.block _ (zd h.blk) (by
   rintro (e | e)
   ·exact zk5 hx h.blk (by decide) e.symm
   ·exact hne _ _ _ h.blk (by decide) e)]
  exact h.blk
 obtain⟨k1,k2⟩:=h.upd (s':=p.s++q) (dn':=false) (iv':=iv') (hg1.imp (by
  rintro x (e | e)
  ·exact .inl e
  ·exact .inr (.inr e))) hB (by rw[ByteArray.size_append];omega) hmb1 (by
  unfold Pr.rd
  rw[if_neg (by simp)]
  refine⟨hx1,?_⟩
  simp only[ByteArray.size_append,zlw]
  exact hown1) (fun x hx=>by
  rcases hiv with e | ⟨g,e,hg⟩
  ·exact .inl (by rw[← e];exact hx)
  ·rw[e] at hx;cases hx
   exact .inr hg)
 exact⟨rfl,k2,iv',k1⟩
theorem zl2 (h:z3 B w p) (hd:p.dn=true) (hB:B≤w.heap.size) (q:ByteArray) (hq:q.size≤200) :
  Calls Tryz.prog 33 #[z9 p.xb,.string q] w fun e w1=>e = .returned (.int .i64 10)∧w1=w:=by
 obtain⟨c,nv,ok,hx⟩:=h.shtC hd
 refine (zc5 (s:=⟨#[]⟩) (B:=B) hx (by decide) (by omega) (World.ownsRow_nil _ _ _ _) hB (by simp[Value.ownBlock])).mono ?_
 intro e w1 h1
 unfold Kq at h1
 rw[if_neg (by decide)] at h1
 exact h1
theorem zkY (h:z3 B w p) (hd:p.dn=false) (hB:B≤w.heap.size) (o:Out) (ho:∀ hp : 0<p.g.length,Ev p.g p.s.data.toList (.C p.g[0].choice) 0 o) :
  Calls Tryz.prog 35 #[z9 p.xb] w fun e w1=>e = .returned (.tuple #[.int .i64 (zN o),.bool o.isSome,.int .i64 0])∧Below B w w1∧z3 B w1 { p with s:=p.s,dn:=true,iv:=.slice none 0 0 }:=by
 obtain⟨hx,hown⟩:=h.opn hd
 have hgp:=h.all.ends.pos
 have hle:zN o≤1000000:=by
  cases o with
  | none=>exact Nat.zero_le _
  | some x=>
   have h1:=((ho hgp).le (Nat.zero_le _) x.1 x.2 rfl).2
   have h2:p.s.data.toList.length=p.s.size:=rfl
   have h3:=h.ssz
   simp only[zN];omega
 refine (zh8 hx h.ssz hown h.ted h.blk h.dnr hgp h.all.rules20 o (ho hgp) hle (zk5 hx h.blk (by decide))).mono ?_
 rintro e w1 ⟨rfl,hx1,hm1,hk1⟩
 obtain⟨k1,k2⟩:=h.upd (s':=p.s) (dn':=true) (iv':=.slice none 0 0) (hk1.grw (by
  intro x hx
  simp only[List.mem_cons,List.not_mem_nil,or_false] at hx
  rcases hx with e | e
  ·exact .inl e
  ·exact .inr (.inl e))) hB h.ssz hm1 (by
  unfold Pr.rd
  rw[if_pos rfl]
  exact⟨rfl,o,ho,hx1⟩) (fun x hx=>by simp[Value.ownBlock] at hx)
 exact⟨rfl,k2,k1⟩
theorem zlc (h:z3 B w p) (hd:p.dn=true):Calls Tryz.prog 34 #[z9 p.xb] w fun e w1=>qF p.t.data.toList p.s w e w1:=by
 obtain⟨_,o,ho,hx⟩:=h.sht hd
 have hgp:=h.all.ends.pos
 have hsl:p.s.data.toList.length≤200:=h.ssz
 have hns:¬ 200<p.s.size:=by have:=h.ssz;omega
 have hwf:∀ x,o=some x→wfN x.2∧szN x.2≤900000:=by
  rintro x rfl
  have h1:=qj h.all.ends h.all.rules20 hsl ho
  exact⟨(ho hgp).wf trivial x.1 x.2 rfl,by omega⟩
 cases o with
 | none=>
  refine (zc8 hx hwf).mono ?_
  rintro e w1 ⟨rfl,rfl⟩
  refine⟨Below.refl _ _,_,_,rfl,.ok (p.g,p.E),h.all,?_⟩
  simp only[]
  rw[if_neg hns]
  exact⟨none,ho,by first | rfl | trivial,by first | rfl | trivial⟩
 | some x=>
  refine (zc8 hx hwf).mono ?_
  rintro e w1 ⟨a,c,rfl,hN,hb1⟩
  refine⟨hb1,_,_,rfl,.ok (p.g,p.E),h.all,?_⟩
  simp only[]
  rw[if_neg hns]
  exact⟨some x,ho,by first | rfl | trivial,a,c,rfl,hN⟩
theorem zld (h:z3 B w p) (hd:p.dn=false):Calls Tryz.prog 34 #[z9 p.xb] w fun e w1=>e = .returned (.tuple #[.slice none 0 0,.int .i64 11])∧w1=w:=
 zhl (h.opn hd).1 (by decide)
theorem zkR (h:z3 B w p) (hd:p.dn=true) (hB:B≤w.heap.size) :
  Calls Tryz.prog 36 #[z9 p.xb] w fun e w1=>e = .returned (.int .i64 0)∧Below B w w1∧z3 B w1 { p with s:=⟨#[]⟩,dn:=false,iv:=.slice none 0 0 }:=by
 obtain⟨c,nv,ok,hx⟩:=h.shtC hd
 refine (zc3 hx).mono ?_
 rintro e w1 ⟨hk1,h1⟩
 rw[if_pos rfl] at h1
 obtain⟨rfl,hx1⟩:=h1
 have hmb1:w1.heap[p.mb]? = some (Zz p.vr ⟨#[]⟩ (.map none) .nilIface):=by
  rw[hk1.block _ (zd h.blk) (by simp only[List.mem_singleton];exact fun e=>zk5 hx h.blk (by decide) e.symm)]
  exact h.blk
 obtain⟨k1,k2⟩:=h.upd (s':=⟨#[]⟩) (dn':=false) (iv':=.slice none 0 0) (hk1.grw (by
  intro x hx
  simp only[List.mem_singleton] at hx
  exact .inl hx)) hB (by decide) hmb1 (by
  unfold Pr.rd
  rw[if_neg (by simp)]
  exact⟨hx1,World.ownsRow_nil _ _ _ _⟩) (fun x hx=>by simp[Value.ownBlock] at hx)
 exact⟨rfl,k2,k1⟩
theorem z3.new {t:ByteArray} {w w1:World} {g:List ze} {E:List Bool} {xb mb:Nat} {N:List Nd} {bx:List (Nat × Nat × Nat)} {rs:List Nat} {vr:Value} {S:Nat→Prop} (hP:Zo t.data.toList (.ok (g,E))) (hM:qx w.heap.size g w w1 mb N bx rs vr S) (hx:w1.heap[xb]? = some (ZE mb 1 (.slice none 0 0) 0 .nilIface false)) (hge:w.heap.size≤xb) (hS:¬ S xb) (hB:B≤w.heap.size) :
  z3 B w1 ⟨xb,0,mb,N,bx,rs,vr,S,t,g,E,⟨#[]⟩,false,.slice none 0 0⟩:=by
 refine⟨hP,hM.ted,hM.blk,hM.dn,by show (0:Nat)≤200;omega,?_,?_⟩
 ·unfold Pr.rd
  rw[if_neg (by simp)]
  exact⟨hx,World.ownsRow_nil _ _ _ _⟩
 ·rintro x (rfl | rfl | e)
  ·exact⟨Nat.le_trans hB hge,hS⟩
  ·exact⟨Nat.le_trans hB hM.mge,hM.ted.nm⟩
  ·simp[Value.ownBlock] at e
end
end Go.Proofs.YtiganlkabilblaaGreatDoor
namespace Go.Proofs.YtiganlkabilblaaGreatDoor
open Go.RowKit Thk Go.Lib
attribute [local go_sem ↓] Go.wp_at_zero Go.wp_at_succ
theorem zl7 (w:World) (B B2:Nat) (v1 v2:Value) (l:List Nod) (h1:Y0 w B v1 l) (h2:Y0 w B2 v2 l) :
  Calls Tryz.prog 30 #[v1,v2] w fun e w'=>e = .returned (.bool true)∧Below w.heap.size w w':=by
 obtain⟨pa,pc,rfl,hm,hc⟩:=h1.gen
 obtain⟨pb,pd,rfl,_,hd⟩:=h2.gen
 clear h1 h2
 go_enter Tryz.func30,Tryz.ntmps30
 go_wp2_with fail
 go_loopg [5] l.length (fun m v wr=>∃ i q:Nat,m=l.length - i∧v = .int .i64 i∧i≤l.length∧wr=w.drewN q)
 case atStart=>exact⟨0,0,by omega,rfl,by omega,rfl⟩
 case round=>
  obtain⟨i,q,rfl,rfl,hi,rfl⟩:=hrel
  by_cases hlt:i<l.length
  ·have hlt':(i:Int)<l.length:=by omega
   obtain⟨pg,rfl,hpg,c0,c1,c2,c3⟩:=hc i hlt
   obtain⟨qg,rfl,hqg,d0,d1,d2,d3⟩:=hd i hlt
   generalize l[i].1=x0 at *
   generalize l[i].2.1=x1 at *
   generalize l[i].2.2.1=x2 at *
   generalize l[i].2.2.2=x3 at *
   clear hc hd
   go_wp2_with fail
   go_quiet (fail)
   go_wp2_with fail
   go_roundg (l.length - (i+1))
   case measure=>omega
   case rel=>exact⟨i+1,_,rfl,by go_num,by omega,rfl⟩
  ·have hlt':¬ (i:Int)<l.length:=by omega
   go_wp2_with fail
   go_ret
   exact⟨rfl,below_drewN (Below.refl _ _) _⟩
theorem zl5 (x y z:Value) (w:World):(Instr.field 43 (.agg #[x,y,z]) 0).run Tryz.prog w = .ok x w:=by kernel_rfl
theorem zks (s:ByteArray) (w:World) (hs:s.size≤maxLen):Calls Tryz.prog 24 #[.string s] w fun e w'=>∃ s':ByteArray,e = .returned (.string s')∧s'.size≤60∧w'=w:=by
 unfold maxLen at hs
 by_cases h : 60<s.size
 ·have h':(60:Int)<s.size:=by omega
  go_enter Tryz.func24,Tryz.ntmps24
  go_wp2_with fail
  go_ret
  exact⟨_,rfl,by simp[ByteArray.size_extract];omega,rfl⟩
 ·have h':¬ (60:Int)<s.size:=by omega
  go_enter Tryz.func24,Tryz.ntmps24
  go_wp2_with fail
  go_ret
  exact⟨_,rfl,by omega,rfl⟩
def PcS (w0:World) (xb:Nat) (T s:ByteArray) (d:Bool) (w:World):Prop:=Below w0.heap.size w0 w∧∃ p,z3 w0.heap.size w p∧p.xb=xb∧p.t=T∧p.s=s∧p.dn=d
section
variable {w0 w : World} {xb : Nat} {T s : ByteArray} {d : Bool}
theorem PcS.below {w':World} (h:PcS w0 xb T s d w) (hb:Below w.heap.size w w'):PcS w0 xb T s d w':=by
 obtain⟨h0,p,h1,h2⟩:=h
 exact⟨h0.trans (hb.mono h0.size),p,h1.below hb,h2⟩
theorem PcS.feed (h:PcS w0 xb T s false w) (q:ByteArray) (hq:s.size+q.size≤200):Calls Tryz.prog 33 #[z9 xb,.string q] w fun e w1=>e = .returned (.int .i64 0)∧PcS w0 xb T (s++q) false w1:=by
 obtain⟨h0,p,h1,rfl,rfl,rfl,hd⟩:=h
 refine (zl1 h1 hd h0.size q hq).mono ?_
 rintro e w1 ⟨rfl,hb,iv',k⟩
 exact⟨rfl,h0.trans hb,_,k,rfl,rfl,rfl,rfl⟩
theorem PcS.feed1 (h:PcS w0 xb T s true w) (q:ByteArray) (hq:q.size≤200):Calls Tryz.prog 33 #[z9 xb,.string q] w fun e w1=>e = .returned (.int .i64 10)∧w1=w:=by
 obtain⟨h0,p,h1,rfl,rfl,rfl,hd⟩:=h
 exact zl2 h1 hd h0.size q hq
theorem PcS.nodes0 (h:PcS w0 xb T s false w):Calls Tryz.prog 34 #[z9 xb] w fun e w1=>e = .returned (.tuple #[.slice none 0 0,.int .i64 11])∧w1=w:=by
 obtain⟨h0,p,h1,rfl,rfl,rfl,hd⟩:=h
 exact zld h1 hd
theorem PcS.nodes1 (h:PcS w0 xb T s true w):Calls Tryz.prog 34 #[z9 xb] w fun e w1=>qF T.data.toList s w e w1:=by
 obtain⟨h0,p,h1,rfl,rfl,rfl,hd⟩:=h
 exact zlc h1 hd
theorem PcS.end_ (h:PcS w0 xb T s false w):Calls Tryz.prog 35 #[z9 xb] w fun e w1=>∃ (a:Int) (b:Bool),e = .returned (.tuple #[.int .i64 a,.bool b,.int .i64 0])∧Ys T.data.toList s (.int .i64 a) (.bool b) (.int .i64 0)∧PcS w0 xb T s true w1:=by
 obtain⟨h0,p,h1,rfl,rfl,rfl,hd⟩:=h
 obtain⟨o,ho⟩:=qh (inp:=p.s.data.toList) h1.all.ends
 refine (zkY h1 hd h0.size o (fun _=>ho)).mono ?_
 rintro e w1 ⟨rfl,hb,k⟩
 refine⟨_,_,rfl,⟨.ok (p.g,p.E),h1.all,?_⟩,h0.trans hb,_,k,rfl,rfl,rfl,rfl⟩
 simp only[]
 rw[if_neg (by have:=h1.ssz;omega)]
 refine⟨o,fun _=>ho,?_⟩
 cases o<;>simp[fin,zN]
theorem PcS.again (h:PcS w0 xb T s true w):Calls Tryz.prog 36 #[z9 xb] w fun e w1=>e = .returned (.int .i64 0)∧PcS w0 xb T ⟨#[]⟩ false w1:=by
 obtain⟨h0,p,h1,rfl,rfl,rfl,hd⟩:=h
 refine (zkR h1 hd h0.size).mono ?_
 rintro e w1 ⟨rfl,hb,k⟩
 exact⟨rfl,h0.trans hb,_,k,rfl,rfl,rfl,rfl⟩
end
theorem Yw.zero {t:List UInt8} {s:ByteArray} {B:Nat} {w:World} {v c:Value} {y:List ze × List Bool} (h:Yw t s B w v c) (hP:Zo t (.ok y)) (hs:s.size≤200):c = .int .i64 0:=by
 obtain⟨res,hP2,hE⟩:=h
 have:=hP2.det hP
 subst this
 obtain⟨g,E⟩:=y
 simp only[] at hE
 rw[if_neg (by omega)] at hE
 obtain⟨o,_,rfl,_⟩:=hE
 rfl
theorem zkS (s r:ByteArray) (n:Nat) (hn:n≤r.size):(s++r.extract 0 n)++r.extract n r.size=s++r:=by
 apply ByteArray.ext
 simp only[ByteArray.data_append,ByteArray.data_extract]
 rw[Array.append_assoc]
 congr 1
 have h2:r.size=r.data.size:=rfl
 rw[h2] at hn ⊢
 rw[Array.extract_append_extract,Nat.min_eq_left (Nat.zero_le n),Nat.max_eq_right hn]
 exact Array.extract_size
theorem zkT (s:ByteArray):(⟨#[]⟩:ByteArray)++s=s:=by
 apply ByteArray.ext
 simp[ByteArray.data_append]
theorem zlf (w:World) (a:Option Addr) (len cap:Nat) (style:Int) (inp:ByteArray) (b:Option Addr) (len2 cap2:Nat) (nxt:ByteArray) (hr:zjX w a len) (hl:len≤maxLen) (hs:i64 style) (hi:inp.size≤maxLen) (hr2:zjX w b len2) (hl2:len2≤maxLen) (hn:nxt.size≤maxLen) (hE:QD w) :
    Calls Tryz.prog 13 #[.slice a len cap,.int .i64 style,.string inp,.slice b len2 cap2,.string nxt] w fun e w'=>e = .returned (.bool true)∧Below w.heap.size w w':=by
  have hx:=zl0 w a len cap style hr hl hs
  have HE:=z6 hE
  have HR2:=z6 hr2
  unfold maxLen at hl2
  clear hr hE hr2
  go_enter Tryz.func13,Tryz.ntmps13
  go_wp2_with fail
  refine hx.mono ?_
  rintro _ w1 ⟨⟨x,ee,dd⟩,rfl,hG,hd4,hlx,hb1⟩
  simp only[] at hG hd4 hlx
  obtain⟨c,hPx,hAll⟩:=Gx_s hG (by omega) (by omega)
  have xs:=zjU x
  have HA:=z6 hAll
  have HB1:=z6 hb1
  have hz1:=hb1.size
  clear hx hG hPx hAll hb1
  simp only[mdV]
  have hfd:=zl5
  go_wp2_with fail
  refine (zl6 _).mono ?_
  rintro _ w2 ⟨rfl,rfl⟩
  go_wp2_with fail
  generalize hT:(⟨#[115,32,60,45,32]⟩++bs x++⟨#[32,110,117,109,32,60,45,32,91,48,45,57,93,32,110,117,109,63,32,119,111,114,100,32,60,45,32,39,97,39,32,119,111,114,100,32,39,98,39,32,47,32,39,99,39,32,39,97,39,63]⟩:ByteArray)=T
  have hTb:T=bs (hdB++(x++zjP)):=by
    rw[← hT,← zf,← zf]
    apply ByteArray.ext
    simp[ByteArray.data_append]
  have hTl:T.data.toList=hdB++(x++zjP):=by rw[hTb]
  have hTs:T.size≤maxLen:=by
    rw[hTb,zjU]
    simp
    unfold maxLen
    omega
  have HN:=z6 (zhk T w2 hTs (HE.out.below HB1.out))
  have HTL:=z6 hTl
  have HTS:=z6 hTs
  clear hT hTb hTl hTs hfd xs
  refine HN.out.mono ?_
  rintro _ w3 ⟨hb3,res,hP,hE3⟩
  obtain⟨E,rfl⟩:=HA.out res (by rw[← HTL.out];exact hP)
  obtain⟨hgl,rb,mb,N,bx,rs,vr,S,rfl,hM,hxb,hge,hne,hS⟩:=hE3
  have HP0:Hid (PcS w rb T ⟨#[]⟩ false w3):=z6 ⟨HB1.out.trans (hb3.mono HB1.out.size),_,z3.new hP hM hxb hge hS HB1.out.size,rfl,rfl,rfl,rfl⟩
  have HPA:=z6 hP
  clear HN hb3 hM hxb hge hne hS HA hP
  go_wp2_with fail
  refine (zks inp _ hi).mono ?_
  rintro _ w4 ⟨s0,rfl,hs0,rfl⟩
  go_wp2_with fail
  go_loopg [14,15] 2 (fun m v14 v15 wr=>∃ (i:Nat) (rest:ByteArray),m=2 - i∧v14 = .string rest∧v15 = .int .i64 i∧i≤2∧rest.size≤60∧Hid (PcS w rb T ⟨#[]⟩ false wr))
  case atStart=>exact⟨0,s0,by omega,rfl,rfl,by omega,hs0,HP0⟩
  case round=>
    obtain⟨i,IN,rfl,rfl,rfl,hi2,hin,HP⟩:=hrel
    clear HP0
    by_cases hlt:i<2
    · have hlt':(i:Int)<2:=by omega
      go_wp2_with fail
      go_loopg [14,17] 20 (fun m v14 v17 wr=>∃ (k:Nat) (s rest:ByteArray),m=20 - k∧v14 = .string rest∧v17 = .int .i64 k∧k≤20∧rest.size≤60∧s.size+rest.size≤60∧Hid (s++rest=IN)∧Hid (PcS w rb T s false wr))
      case atStart=>exact⟨0,⟨#[]⟩,IN,by omega,rfl,rfl,by omega,hin,by show 0+IN.size≤60;omega,z6 (zkT _),HP⟩
      case round=>
        obtain⟨k,s,rest,rfl,rfl,rfl,hk,hrest,hsum,HEQ,HS⟩:=hrel
        by_cases hgo:k<len2∧k<20
        · obtain⟨hk1,hk2⟩:=hgo
          have hk1':(k:Int)<len2:=by omega
          have hk2':(k:Int)<20:=by omega
          obtain⟨xa,cv,rfl,hxl,hxc,hci⟩:=HR2.out k hk1
          have hz:=HS.out.1.size
          have hxl2:(xa.add k).block<wr.heap.size:=by omega
          have hxc2:wr.cell? (xa.add k)=some (.int .i64 cv):=by rw[HS.out.1.cell (p:=xa.add k) hxl];exact hxc
          have hpk:=zh9 cv (n:=rest.size+1) (by omega)
          have HPK:=z6 (fun W:World=>zk7 cv (rest.size+1) W hci (by omega) (by omega))
          generalize YY cv (rest.size+1)=n at *
          have hnl:n≤rest.size:=by omega
          have hnl':(n:Int)≤rest.size:=by omega
          have HFD:=z6 (HS.out.feed (rest.extract 0 n) (by rw[ByteArray.size_extract];omega))
          have HCT:=z6 (zkS s rest n hnl)
          clear hxc hxl hci hpk
          go_wp2_with fail
          refine (HPK.out _).mono ?_
          rintro _ w5 ⟨rfl,rfl⟩
          clear HPK
          go_wp2_with fail
          refine HFD.out.mono ?_
          rintro _ w6 ⟨rfl,hp6⟩
          have HP6:=z6 hp6
          clear HFD hp6
          go_wp2_with fail
          go_roundg (20 - (k+1))
          case measure=>omega
          case rel=>exact⟨k+1,s++rest.extract 0 n,rest.extract n rest.size,rfl,by simp,by go_num,by omega,by simp only[ByteArray.size_extract];omega,by simp only[ByteArray.size_append,ByteArray.size_extract];omega,z6 (HCT.out.trans HEQ.out),HP6⟩
        · have HFD:=z6 (HS.out.feed rest (by omega))
          have hcase:¬ k<len2∨(k<len2∧¬ k<20):=by omega
          rcases hcase with hk1 | ⟨hk1,hk2⟩
          all_goals
            first
              | (have hk1':¬ (k:Int)<len2:=by omega)
              | (have hk1' : (k : Int) < len2 := by omega
                 have hk2':¬ (k:Int)<20:=by omega)
            go_wp2_with fail
            refine HFD.out.mono ?_
            rintro _ w5 ⟨rfl,hp5⟩
            rw[HEQ.out] at hp5
            have HN5:=z6 hp5.nodes0
            have HE5:=z6 hp5.end_
            clear HFD hp5
            go_wp2_with fail
            refine HN5.out.mono ?_
            rintro _ w6 ⟨rfl,rfl⟩
            clear HN5
            go_wp2_with fail
            refine HE5.out.mono ?_
            rintro _ w7 ⟨mn,mo,rfl,hMI,hp7⟩
            have HM7:=z6 (zlo T IN w7 HTS.out (by unfold maxLen;omega) (HE.out.below hp7.1))
            have HP7:=z6 hp7
            have HMI:=z6 hMI
            clear HE5 hp7 hMI
            go_wp2_with fail
            refine HM7.out.mono ?_
            intro _ w8 h8
            obtain⟨hb8,x8,y8,z8,rfl,hI8⟩:=h8.is
            obtain⟨ha,hb,hc⟩:=HMI.out.det hI8
            subst ha
            subst hb
            subst hc
            have hp8:=HP7.out.below hb8
            have HN8:=z6 hp8.nodes1
            have HP8:=z6 hp8
            clear HM7 h8 hb8 hI8 hp8 HP7 HMI
            go_wp2_with fail
            refine HN8.out.mono ?_
            rintro _ w9 ⟨hb9,v9,c9,rfl,hI9⟩
            obtain rfl:=hI9.zero HPA.out (by omega)
            obtain⟨a9,n9,cp9,er9,rfl,he9⟩:=hI9.form
            cases he9
            have hp9:=HP8.out.below hb9
            have HT9:=z6 (zlp T IN w9 HTS.out (by unfold maxLen;omega) (HE.out.below hp9.1))
            have HP9:=z6 hp9
            have HI9:=z6 hI9
            clear HN8 hb9 hI9 hp9 HP8
            go_wp2_with fail
            refine HT9.out.mono ?_
            rintro _ w10 ⟨hb10,v10,c10,rfl,hI10⟩
            obtain rfl:=hI10.zero HPA.out (by omega)
            obtain⟨L,er,hL,hc9,hc10,hN9,hN10⟩:=HI9.out.both hI10
            obtain⟨a10,cp10,rfl⟩:=zl hN10
            obtain⟨_,_,hnf⟩:=zl hN9
            cases hc9
            clear hc10
            cases hnf
            have hp10:=HP9.out.below hb10
            have hN9':Y0 w10 _ (.slice a9 L.length cp9) L:=Zv hN9 hb10
            have HSM:=z6 (zl7 w10 _ _ _ _ L hN9' hN10)
            have HP10:=z6 hp10
            clear HT9 hb10 hI10 hN9 hN10 hN9' hp10 HP9 HI9
            go_wp2_with fail
            refine HSM.out.mono ?_
            rintro _ w11 ⟨rfl,hb11⟩
            have hp11:=HP10.out.below hb11
            have HF11:=z6 (hp11.feed1 ⟨#[]⟩ (by decide))
            have HA11:=z6 hp11.again
            clear HSM hb11 hp11 HP10
            go_wp2_with fail
            refine HF11.out.mono ?_
            rintro _ w12 ⟨rfl,rfl⟩
            clear HF11
            go_wp2_with fail
            refine HA11.out.mono ?_
            rintro _ w13 ⟨rfl,hp13⟩
            have HP13:=z6 hp13
            clear HA11 hp13
            go_wp2_with fail
            refine (zks nxt _ hn).mono ?_
            rintro _ w14 ⟨s1,rfl,hs1,rfl⟩
            go_wp2_with fail
            go_roundg (2 - (i+1))
            case measure=>omega
            case rel=>exact⟨i+1,s1,rfl,rfl,by go_num,by omega,hs1,HP13⟩
    · have hlt':¬ (i:Int)<2:=by omega
      have HZ:=z6 HP.out.1
      go_wp2_with fail
      go_ret
      exact⟨rfl,HZ.out⟩
end Go.Proofs.YtiganlkabilblaaGreatDoor
namespace Go.Proofs.YtiganlkabilblaaGreatDoor
open Go.ChangeShapes Go.WideShapes Go.ChangeAt Go.RowKit
theorem zll:ownKnob Tryz.prog.godebug=none:=by kernel_rfl
theorem zku:laidOutB Tryz.prog=true:=by kernel_rfl
theorem zlj:Tryz.prog.globalNamed "errors.errorType" = some 0:=by kernel_rfl
theorem zlm:(Tryz.prog.cutTypes.find? (·.1 == "internal/reflectlite.rtype")).map (·.2)=some 259:=by kernel_rfl
theorem zln:Tryz.prog.types.size=376:=by kernel_rfl
theorem zlk:((List.range 376).filter fun t=>Tryz.prog.rowNamed t [101,114,114,111,114])=[78]:=by kernel_rfl
abbrev zjZ:List (String × DataW Unit):=[("errors.errorType", Rows.laid_errors_errorType)]
theorem zkZ {W:World} (h:laidMetH Tryz.prog zjZ W):QD W:=by
 have h':laidMet Tryz.prog [] W∧handlesMet Tryz.prog zjZ W:=h
 obtain⟨name,u,ty,e1,e2,e3,e4,e5⟩:=h'.2 _ (List.mem_singleton.2 rfl)
 have en:name=[101,114,114,111,114]:=(Option.some.inj e1).symm
 subst en
 obtain rfl:=Option.some.inj (zlm.symm.trans e2)
 have hm:ty ∈ (List.range 376).filter fun t=>Tryz.prog.rowNamed t [101,114,114,111,114]:=List.mem_filter.2 ⟨List.mem_range.2 (by rw[← zln];exact e3),e4⟩
 rw[zlk] at hm
 obtain rfl:=List.mem_singleton.1 hm
 have hh:typeHandle Tryz.prog 78 = .pointer (some ⟨2,78,none⟩):=by kernel_rfl
 rw[hh] at e5
 unfold QD
 simpa using World.var?_cell zlj e5 0
theorem zkw {H:Type} {enc:TypeId × Value→H} {W:World} {a0:Option Addr} {len0 cap0:Nat} {d:DataW H} {p:List MemPlace} (h0:DataW.Trod enc Tryz.prog W 0 (fun _=>true) true 40 (.slice a0 len0 cap0) d p):zjX W a0 len0∧len0≤maxLen:=by
 obtain⟨fuel,hf⟩:=h0
 rcases open_ints Tryz.underlying40 Tryz.underlying3 (by kernel_rfl) hf with ⟨hcs,_⟩ | ⟨x,l,c,zs,hcs,_,hl,hm,hz,_,hcell,hwz⟩
 ·simp[Value.cells] at hcs
  obtain⟨rfl,rfl,rfl⟩:=hcs
  exact⟨fun k hk=>by omega,by decide⟩
 ·simp[Value.cells] at hcs
  obtain⟨rfl,rfl,rfl⟩:=hcs
  have hzl:zs.length=cap0:=by simpa using hz
  refine⟨fun k hk=>⟨x,zs.getD k 0,rfl,?_,hcell k (by omega),?_⟩,by omega⟩
  ·exact World.block_lt_of_cell? W _ (hcell k (by omega))
  ·have hw:=hwz (zs.getD k 0) (by rw[List.getD_eq_getElem?_getD,List.getElem?_eq_getElem (by omega)];exact List.getElem_mem _)
   have hw':IntKind.i64.min≤zs.getD k 0∧zs.getD k 0≤IntKind.i64.max:=by simpa [Lit.wf] using hw
   have e1:IntKind.i64.min = -9223372036854775808:=by decide
   have e2:IntKind.i64.max=9223372036854775807:=by decide
   constructor<;>omega
theorem zl4 {n:Int} (hn:(Lit.int .i64 n).wf=true):i64 n:=by
 have hw':IntKind.i64.min≤n∧n≤IntKind.i64.max:=by simpa [Lit.wf] using hn
 have e1:IntKind.i64.min = -9223372036854775808:=by decide
 have e2:IntKind.i64.max=9223372036854775807:=by decide
 constructor<;>omega
theorem zlh (os:Os) (started:os.Started) (H:Type) (enc:TypeId × Value→H) :
    ReturnsInHanded {} Tryz.checked os 13 .any (fun w args=>(Rows.piecesSpec.pre enc Tryz.prog Tryz.f13 [] false w args∧laidMetH Tryz.prog zjZ w)∧sizedMet enc Tryz.prog Tryz.f13 (OpenSpec.ofChange Rows.piecesSpec) false w args)
      (Rows.piecesSpec.post enc Tryz.prog Tryz.f13 false true false false):=by
  refine returnsInHanded_of_change_and (C:=Tryz.checked) (X:=fun w _=>laidMetH Tryz.prog zjZ w) (fun _ _ _ hh h=>h.of_heap hh) zll started (by kernel_rfl) Tryz.func13
    (ChangeSpec.witness_at (enc:=enc) (C:=Tryz.checked) (os:=os) (X:=fun w _=>laidMetH Tryz.prog zjZ w) false
      { World.holding Tryz.prog os ⟨#[], #[], []⟩ with heap := (World.holding Tryz.prog os ⟨#[], #[], []⟩).heap.modify 0 fun
          | .cells _ t frozen=>.cells #[.iface 259 (.agg #[.pointer (some ⟨2,78,none⟩)])] t frozen
          | o=>o }
      #[.slice none 0 0,.int .i64 0,.string ⟨#[]⟩,.slice none 0 0,.string ⟨#[]⟩] 8 rfl (by kernel_rfl) (by kernel_rfl) (by kernel_rfl) (by kernel_rfl) (by kernel_rfl) (laidMetH_of_parts (laidMet_nil _ _) (by kernel_rfl))) ?_
  intro W base args ds gs before hval0 hW _ _ hL _
  have hval:∀ (j:Nat) t v,Tryz.f13.params[j]? = some t→args[j]? = some v→Value.okWide Tryz.prog W .any base t v:=hval0
  have hW':=hW
  obtain⟨p,q,hA0,hV0,rfl,hfz,hnd⟩:=hW
  have hA:DataW.TrodAll enc Tryz.prog W 0 (fun _=>true) true Tryz.f13.params.toList args.toList ds p:=hA0
  have hV:DataW.TrodVars enc Tryz.prog W (fun _=>true) [] gs q:=hV0
  rw[Tryz.params13] at hA hval
  obtain⟨v0,vs0,d0,ds0,p0,q0,hargs,rfl,rfl,h0,r0⟩:=trodAll_cons hA
  obtain⟨v1,vs1,d1,ds1,p1,q1,rfl,rfl,rfl,h1,r1⟩:=trodAll_cons r0
  obtain⟨v2,vs2,d2,ds2,p2,q2,rfl,rfl,rfl,h2,r2⟩:=trodAll_cons r1
  obtain⟨v3,vs3,d3,ds3,p3,q3,rfl,rfl,rfl,h3,r3⟩:=trodAll_cons r2
  obtain⟨v4,vs4,d4,ds4,p4,q4,rfl,rfl,rfl,h4,r4⟩:=trodAll_cons r3
  obtain⟨rfl,rfl,rfl⟩:=trodAll_nil r4
  obtain rfl:args = #[v0,v1,v2,v3,v4]:=by cases args;simp_all
  obtain⟨rfl,rfl⟩:gs=[]∧q=[]:=by
    cases gs with
    | nil=>exact⟨rfl,hV⟩
    | cons g r=>exact absurd hV (by intro h;cases h)
  obtain⟨a0,len0,cap0,rfl⟩:=okWide_slice Tryz.underlying40 (hval 0 40 v0 rfl rfl)
  obtain⟨a3,len3,cap3,rfl⟩:=okWide_slice Tryz.underlying40 (hval 3 40 v3 rfl rfl)
  have k0:=h0
  have lt0:∀ x ∈ p0,x.block<W.heap.size:=by obtain⟨m,hm⟩:=k0;exact DataW.trod_lt m _ _ _ hm
  have k3:=h3
  have lt3':∀ x ∈ p3,x.block<W.heap.size:=by obtain⟨m,hm⟩:=k3;exact DataW.trod_lt m _ _ _ hm
  obtain⟨hr0,hl0⟩:=zkw h0
  obtain⟨hr3,hl3⟩:=zkw h3
  obtain⟨a1,rfl,rfl,rfl,w1⟩:=open_int Tryz.underlying3 (hval 1 3 v1 rfl rfl) h1
  obtain⟨s2,rfl,rfl,rfl,w2⟩:=Go.ChangeMaps.open_string Tryz.underlying9 (hval 2 9 v2 rfl rfl) h2
  obtain⟨s4,rfl,rfl,rfl,w4⟩:=Go.ChangeMaps.open_string Tryz.underlying9 (hval 4 9 v4 rfl rfl) h4
  refine (zlf W a0 len0 cap0 a1 s2 a3 len3 cap3 s4 hr0 hl0 (zl4 w1) w2 hr3 hl3 w4 (zkZ hL)).mono fun e W' ⟨he,bel⟩=>?_
  subst he
  exact⟨_,rfl,_,_,_,[],_,[],hW',trodAll_mk1 (shut_bool Tryz.underlying4 _),(trodAll_cons_mk (Below.trod zku (by kernel_rfl) (of_decide_eq_true (by kernel_rfl)) k0 bel lt0) (trodAll_cons_mk (shut_int Tryz.underlying3 w1) (trodAll_cons_mk (Go.ChangeMaps.shut_string Tryz.underlying9 w2) (trodAll_cons_mk (Below.trod zku (by kernel_rfl) (of_decide_eq_true (by kernel_rfl)) k3 bel lt3') (trodAll_cons_mk (Go.ChangeMaps.shut_string Tryz.underlying9 w4) trodAll_mk0))))),rfl,bel.frame _,fun h=>by cases h⟩
theorem zlg:Rows.PiecesSaid:=
 OpenClaim.holds_of_wide 13 Tryz.f13 rfl rfl rfl rfl rfl rfl rfl ⟨rfl,rfl,rfl,rfl,rfl⟩ rfl rfl rfl rfl rfl (by kernel_rfl) Tryz.func13 (by kernel_rfl)
  (of_decide_eq_true (by kernel_rfl)) (by unfold Func.isWrapper;first | (rw[if_pos (by decide +kernel)];kernel_rfl) | (rw[if_neg (by decide +kernel)];exact⟨rfl,rfl⟩))
  (fun os started H enc _=>zlh os started H enc)
end Go.Proofs.YtiganlkabilblaaGreatDoor
namespace Go.Proofs.YtiganlkabilblaaGreatDoor
open Go
theorem zli:Rows.piecesRow.laidByTextAt .later Tryz.pinned [.handle] true:=
 OpenClaim.laidByTextAt_later rfl rfl tie (by kernel_rfl)
theorem pieces_card:Rows.PiecesCardSaid:=
 Claim7.holds_tied_plain_at .later [] [.handle] true (true,Rows.piecesCard.stood.harness.2) true
  zlg (fun _ h=>by cases h) (by kernel_rfl) (fun _ h=>by cases h) zli rfl ⟨rfl,rfl⟩ (by kernel_rfl) rfl
  (fun f fn hf hfn=>by
   obtain rfl:f=13:=Option.some.inj ((show Tryz.prog.funcNamed Rows.piecesRow.func=some 13 by kernel_rfl).symm.trans hf) |>.symm
   obtain rfl:fn=Tryz.f13:=(Option.some.inj (Tryz.func13.symm.trans hfn)).symm
   exact⟨by kernel_rfl,fun j t ht=>by
    rw[Tryz.params13] at ht
    have h3:t=40∨t=3∨t=9:=by
     rcases j with _ | _ | _ | _ | _ | j
     ·left;simpa using ht.symm
     ·right;left;simpa using ht.symm
     ·right;right;simpa using ht.symm
     ·left;simpa using ht.symm
     ·right;right;simpa using ht.symm
     ·simp at ht
    rcases h3 with rfl | rfl | rfl
    ·exact (show Tryz.prog.wantsStandIn 40=false by kernel_rfl)
    ·exact (show Tryz.prog.wantsStandIn 3=false by kernel_rfl)
    ·exact (show Tryz.prog.wantsStandIn 9=false by kernel_rfl)⟩)
  (by kernel_rfl)
#print axioms pieces_card
end Go.Proofs.YtiganlkabilblaaGreatDoor
