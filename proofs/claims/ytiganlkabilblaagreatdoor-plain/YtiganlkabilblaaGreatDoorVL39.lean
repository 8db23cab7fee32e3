import Derived.Test.YtiganlkabilblaaGreatDoorVL38
import Derived.Test.YtiganlkabilblaaGreatDoorVL22
import Derived.Test.YtiganlkabilblaaGreatDoorVL14
import Derived.Test.YtiganlkabilblaaGreatDoorVL13
import Derived.Laws.AppendOwnNone
import Derived.Deep.Upon
import Derived.Test.YtiganlkabilblaaGreatDoorVL12
import Derived.Test.YtiganlkabilblaaGreatDoorVL10
import Derived.Test.YtiganlkabilblaaGreatDoorVL11
import Derived.Deep.RegionHeldLaw
import Derived.Deep.RegionLaw
import Derived.Deep.DrawnRows
import Derived.Test.YtiganlkabilblaaGreatDoorVL09
import Derived.Deep.CutRange
import Derived.Deep.RegionHeld
import Derived.Test.YtiganlkabilblaaGreatDoorVL23
import Derived.Test.YtiganlkabilblaaGreatDoorVL29
import Derived.Test.YtiganlkabilblaaGreatDoorVL24
import Derived.Test.YtiganlkabilblaaGreatDoorVL27
import Derived.Lib.AppendStr
set_option linter.all false
set_option maxHeartbeats 64000000
set_option maxRecDepth 100000
namespace Go.Proofs.YtiganlkabilblaaGreatDoor
open Go.RowKit
attribute [local go_sem ↓] Go.wp_at_zero Go.wp_at_succ
theorem Zo.errNe {l:List UInt8} {er p:Nat} (h:Zo l (.error (er,p))):er≠0:=by
 cases h with
 | text h=>exact zce h
 | rules _ h=>cases h<;>simp
theorem zq9 (s:ByteArray) (w:World) (hs:s.size≤maxLen) (hg:QD w) :
  Calls Tryz.prog 17 #[.string s] w fun e w'=>Below w.heap.size w w'∧∃ res,Zo s.data.toList res∧match res with
   | .ok (g,_)=>e = .returned (.tuple #[.string ⟨(prG g).toArray⟩,.int .i64 0])
   | .error (er,_)=>e = .returned (.tuple #[.string ⟨#[]⟩,.int .i64 er]):=by
 have hrd:=zhC s w hs
 have HG:Hid (QD w):=hg
 clear hg
 go_enter Tryz.func17,Tryz.ntmps17
 go_wp2_with fail
 refine hrd.mono ?_
 rintro e w1 ⟨res,hP,hb,hE⟩
 have HB:Hid (Below w.heap.size w w1):=hb
 have hs1:=hb.size
 have HP:Hid (Zo s.data.toList res):=hP
 clear hrd hP hb
 cases res with
 | error x=>
  obtain⟨er,p⟩:=x
  have htd:=fun O=>zjf er p (w1.alloc O) (HG.out.below (HB.out.alloc hs1 O))
  have h0:=HP.out.errNe
  have h1:¬ (er:Int)=0:=by omega
  simp only[zS] at hE htd
  subst hE
  go_wp2_with fail
  refine (htd _).mono ?_
  rintro e w2 ⟨rfl,hb2⟩
  have HB2:Hid (Below w.heap.size w w2):=(HB.out.alloc hs1 _).trans (hb2.mono (by simp;omega))
  clear htd hb2
  go_wp2_with fail
  go_ret2
  exact⟨HB2.out,.error (er,p),HP.out,rfl⟩
 | ok y=>
  obtain⟨g,E⟩:=y
  obtain⟨hg0,hgl,a,cp,mb,eb,rfl,hGr,hFa⟩:=hE
  have htd:=fun O=>zjg (w1.alloc O)
  have hpt:=fun (W:World) (hb:Below w1.heap.size w1 W)=>zpV W (w.heap.size≤·) g a cp (hGr.kept (ZF hb)) HP.out.gok hgl
  have HPT:=z6 hpt
  clear hg0 hGr hFa hpt
  simp only[zI]
  go_wp2_with fail
  refine (htd _).mono ?_
  rintro e w2 ⟨rfl,hb2⟩
  have hz2':=hb2.size
  simp at hz2'
  have HB12:Hid (Below w1.heap.size w1 w2):=(zc _ _).trans (hb2.mono (by simp))
  have HB2:Hid (Below w.heap.size w w2):=HB.out.trans (HB12.out.mono hs1)
  clear htd hb2
  go_wp2_with fail
  refine (HPT.out w2 HB12.out).mono ?_
  rintro _ w3 ⟨rfl,hb3⟩
  have HB3:=z6 (HB2.out.trans (hb3.mono HB2.out.size))
  clear hb3
  go_wp2_with fail
  go_ret2
  exact⟨HB3.out,.ok (g,E),HP.out,rfl⟩
end Go.Proofs.YtiganlkabilblaaGreatDoor
namespace Go.Proofs.YtiganlkabilblaaGreatDoor
open Go.RowKit Thk
attribute [local go_sem ↓] Go.wp_at_zero Go.wp_at_succ
theorem Jv.same {w w':World} {mb:Nat} {N:List Nd} {bx:List (Nat × Nat × Nat)} {rs:List Nat} {vr:Value} {S:Nat→Prop} (h:Jv w mb N bx rs vr S) (hs:w.heap.size≤w'.heap.size) (hg:∀ b,S b→w'.heap[b]? = w.heap[b]?):Jv w' mb N bx rs vr S:=
 ⟨h.nm,fun b hb=>Nat.lt_of_lt_of_le (h.lt b hb) hs,Nat.lt_of_lt_of_le h.mlt hs,fun w2 h2 h3 h4=>h.mde w2 (Nat.le_trans hs h2) (fun b hb=>(h3 b hb).trans (hg b hb)) h4⟩
theorem Jv.below {w w':World} {mb:Nat} {N:List Nd} {bx:List (Nat × Nat × Nat)} {rs:List Nat} {vr:Value} {S:Nat→Prop} (h:Jv w mb N bx rs vr S) (hb:Below w.heap.size w w'):Jv w' mb N bx rs vr S:=
 h.same hb.size (fun b hS=>hb.block b (h.lt b hS))
theorem zgB {w:World} {mb:Nat} {N:List Nd} {bx:List (Nat × Nat × Nat)} {rs:List Nat} {vr:Value} {S:Nat→Prop} {g:List ze} {s s0:ByteArray} {tv:Value} (h:Jv w mb N bx rs vr S) (hb:w.heap[mb]? = some (Zz vr s0 tv .nilIface)) (hR:DnR N rs g) (hg : 0<g.length) (hgl:g.length≤20) (hs:s.size≤1000000) (o:Out) (ho:Ev g s.data.toList (.C g[0].choice) 0 o) :
  Calls Tryz.prog 60 #[z9 mb,.string s] w fun e w'=>e = .returned (.tuple #[J1 0 0 o,.bool o.isSome])∧w'.heap[mb]? = some (Zz vr ⟨#[]⟩ (.map none) .nilIface)∧Jv w' mb N bx rs vr S∧KpM [mb] w.heap.size w w':=by
 have hl:=hR.1
 have hr0 : 0<rs.length:=by omega
 have hd:=hR.2 0 hg hr0
 obtain⟨f,hf⟩:=(Ev.pgroup ho).simN hR rs[0] hd
 have M:=h.mde w (Nat.le_refl _) (fun _ _=>rfl) ⟨_,_,_,hb⟩
 refine (zj4 M (by omega) hs w ⟨Nat.le_refl _,fun _ _ _=>rfl,zd hb,hb⟩ f rs[0] o (List.getElem?_eq_getElem hr0) hf).mono ?_
 rintro e w' ⟨h1,h2,h3⟩
 refine⟨h1,h2.blk,h.same h3.size (fun b hS=>?_),h3⟩
 exact h3.block b (h.lt b hS) (by simp only[List.mem_singleton];rintro rfl;exact h.nm hS)
structure qx (B:Nat) (g:List ze) (w0 w':World) (mb:Nat) (N:List Nd) (bx:List (Nat × Nat × Nat)) (rs:List Nat) (vr:Value) (S:Nat→Prop):Prop where
 ted:Jv w' mb N bx rs vr S
 blk:w'.heap[mb]? = some (Zz vr ⟨#[]⟩ (.map none) .nilIface)
 dn:DnR N rs g
 mge:B≤mb
 gr:∀ b,S b→B≤b∨QA w0 b
def zaI (t:List UInt8) (w:World) (e:Ending) (w':World):Prop:=
 Below w.heap.size w w'∧∃ res,Zo t res∧match res with
  | .error (er,_)=>e = .returned (.tuple #[.pointer none,.int .i64 er])
  | .ok (g,_)=>g.length≤20∧∃ mb N bx rs vr S,e = .returned (.tuple #[z9 mb,.int .i64 0])∧qx w.heap.size g w w' mb N bx rs vr S
theorem zgl (s:ByteArray) (w:World) (hs:s.size≤maxLen) (hg:QD w) :
  Calls Tryz.prog 58 #[.string s] w fun e w'=>zaI s.data.toList w e w':=by
 have hrd:=zhC s w hs
 have HG:Hid (QD w):=hg
 clear hg
 go_enter Tryz.func58,Tryz.ntmps58
 go_wp2_with fail
 refine hrd.mono ?_
 rintro e w1 ⟨res,hP,hb,hE⟩
 have HB:Hid (Below w.heap.size w w1):=hb
 have hs1:=hb.size
 have HP:Hid (Zo s.data.toList res):=hP
 clear hrd hP hb
 cases res with
 | error x=>
  obtain⟨er,p⟩:=x
  have htd:=fun O=>zjf er p (w1.alloc O) (HG.out.below (HB.out.alloc hs1 O))
  have h0:=HP.out.errNe
  have h1:¬ (er:Int)=0:=by omega
  simp only[zS] at hE htd
  subst hE
  go_wp2_with fail
  refine (htd _).mono ?_
  rintro e w2 ⟨rfl,hb2⟩
  have HB2:Hid (Below w.heap.size w w2):=(HB.out.alloc hs1 _).trans (hb2.mono (by simp;omega))
  clear htd hb2
  go_wp2_with fail
  go_ret2
  exact⟨HB2.out,.error (er,p),HP.out,rfl⟩
 | ok y=>
  obtain⟨g,E⟩:=y
  obtain⟨hg0,hgl,a,cp,nb,eb,rfl,hGr,hFa⟩:=hE
  have htd:=fun O=>zjg (w1.alloc O)
  have hmk:=fun (W:World) (hb:Below w1.heap.size w1 W)=>zgp W (w.heap.size≤·) g a cp nb (hGr.kept (ZF hb)) (hFa.map.below hb) HP.out.gok (fun r hr=>(HP.out.ok' r hr).1) hgl
  have HMK:=z6 hmk
  clear hg0 hGr hFa hmk
  simp only[zI]
  go_wp2_with fail
  refine (htd _).mono ?_
  rintro e w2 ⟨rfl,hb2⟩
  have hz2':=hb2.size
  simp at hz2'
  have f0:w2.cell? ⟨w1.heap.size,0,none⟩=some (.map (some nb)):=by rw[hb2.cell (p:=⟨w1.heap.size,0,none⟩) (by simp)];exact z8 (zk w1 _) 0
  have HB12:Hid (Below w1.heap.size w1 w2):=(zc _ _).trans (hb2.mono (by simp))
  have HB2:Hid (Below w.heap.size w w2):=HB.out.trans (HB12.out.mono hs1)
  clear htd hb2
  go_wp2_with fail
  refine (HMK.out w2 HB12.out).mono ?_
  rintro _ w3 ⟨mb,N,bx,rs,vr,S,rfl,h1,h2,h3,h4,h5,h6⟩
  have HZ:Hid (zaI s.data.toList w (.returned (.tuple #[z9 mb,.int .i64 0])) w3):=z6 ⟨HB2.out.trans (h4.mono HB2.out.size),.ok (g,E),HP.out,hgl,mb,N,bx,rs,vr,S,rfl,h1,h2,h3,Nat.le_trans HB2.out.size h5,fun b hb=>by
   rcases h6 b hb with h' | ⟨cu,h'⟩
   ·exact .inl (Nat.le_trans HB2.out.size h')
   ·rcases Nat.lt_or_ge b w.heap.size with hl | hl
    ·exact .inr ⟨cu,by rw[← HB2.out.block b hl];exact h'⟩
    ·exact .inl hl⟩
  clear h1 h2 h3 h4 h5 h6
  go_wp2_with fail
  go_ret2
  exact HZ.out
theorem zjw (o:Out):∃ (c:Int) (nv:Value),J1 0 0 o = .agg #[.int .i64 0,.int .i64 0,.int .i64 c,nv]∧(nv = .nilIface∨∃ t v,nv = .iface t v):=by
 cases o with
 | none=>exact⟨0,.nilIface,rfl,.inl rfl⟩
 | some x=>exact⟨x.1,ntV x.2,rfl,QV x.2⟩
def zko (t:List UInt8) (s:ByteArray) (w:World) (e:Ending) (w':World):Prop:=
 Below w.heap.size w w'∧∃ res,Zo t res∧match res with
  | .error (er,_)=>er≠0∧e = .returned (.tuple #[J1 0 0 none,.bool false,.int .i64 er])
  | .ok (g,_)=>g.length≤20∧if 200<s.size then e = .returned (.tuple #[J1 0 0 none,.bool false,.int .i64 1]) else ∃ o,(∀ h : 0<g.length,Ev g s.data.toList (.C g[0].choice) 0 o)∧e = .returned (.tuple #[J1 0 0 o,.bool o.isSome,.int .i64 0])
theorem zlq {fn:Func} {p u u2:Tmp} {ty:TypeId} (h:fn.results = #[.cell p ty,.tmp u,.tmp u2]) (tmps:Array Value) (P:Program) (w:World) :
  (results fn tmps).run P w =
   ((asAddr (tmps.getD p undef)).run P w).andThen fun a w₁ => ((loadVar ty a).run P w₁).andThen fun v w₂ => .ok (.tuple #[v,tmps.getD u undef,tmps.getD u2 undef]) w₂ := by
 simp only[results,h]
 simp[Sem.run_bind,Result.andThen]
theorem zk8 {P:Program} {fn:Func} {p u u2:Tmp} {ty:TypeId} (h:fn.results = #[.cell p ty,.tmp u,.tmp u2]) (tmps:Array Value) (w:World) (g:Nat) (t:TypeId) (cs:Array Value) (fr:Nat × Nat) (d:TypeDesc)
  (hp:tmps.getD p undef = .pointer (some ⟨g,0,none⟩)) (hg:w.heap[g]? = some (.cells cs t fr))
  (hu:P.underlying ty=some d) (hd:(match d with | .struct _ | .array _ _=>true | _=>false)=true) (hi:(P.info? ty).map (·.size)=some cs.size) :
  (results fn tmps).run P w = .ok (.tuple #[.agg cs,tmps.getD u undef,tmps.getD u2 undef]) w:=by
 rw[zlq h,hp]
 simp[asAddr,run_loadVar_row w g t ty cs fr d hg hu hd hi,Result.andThen]
theorem zkv (t s:ByteArray) (w:World) (hs:t.size≤maxLen) (hs2:s.size≤maxLen) (hg:QD w) :
  Calls Tryz.prog 55 #[.string t,.string s] w fun e w'=>zko t.data.toList s w e w':=by
 unfold maxLen at hs2
 have hmd:=zgl t (w.alloc JD) hs (hg.below (zc w JD))
 go_enter Tryz.func55,Tryz.ntmps55
 go_wp2_with fail
 refine hmd.mono ?_
 rintro e w1 ⟨hb,res,hP,hE⟩
 have hz:=hb.size
 simp at hz
 have hu1:w1.heap[w.heap.size]? = some JD:=by rw[hb.block _ (by simp)];exact zk _ _
 have z0:=z8 hu1
 have f0:=zi hu1
 have l0:=za hu1
 have HU1:=z6 hu1
 have HB:Hid (Below w.heap.size w w1):=(zc w JD).trans (hb.mono (by simp))
 have HP:=z6 hP
 clear hmd hb hP hu1
 cases res with
 | error x=>
  obtain⟨er,p⟩:=x
  simp only[] at hE
  subst hE
  have h0:=HP.out.errNe
  have h1:¬ (er:Int)=0:=by omega
  go_wp2_with fail
  refine bodyPost_ret (zk8 rfl _ _ w.heap.size _ _ _ _ rfl (by rw[zo (zo (zo (zo HU1.out _) _) _) _]) Tryz.underlying108 rfl (by kernel_rfl)) rfl ?_
  exact⟨(((HB.out.setCell (p:=⟨w.heap.size,0,none⟩) (Nat.le_refl _) _).setCell (p:=⟨w.heap.size,1,none⟩) (Nat.le_refl _) _).setCell (p:=⟨w.heap.size,2,none⟩) (Nat.le_refl _) _).setCell (p:=⟨w.heap.size,3,none⟩) (Nat.le_refl _) _,.error (er,p),HP.out,h0,rfl⟩
 | ok y=>
  obtain⟨g,E⟩:=y
  obtain⟨hgl,mb,N,bx,rs,vr,S,rfl,hM⟩:=hE
  by_cases hlong : 200<s.size
  ·have hlong':(200:Int)<s.size:=by omega
   clear hM
   go_wp2_with fail
   refine bodyPost_ret (zk8 rfl _ _ w.heap.size _ _ _ _ rfl (by rw[zo (zo (zo (zo HU1.out _) _) _) _]) Tryz.underlying108 rfl (by kernel_rfl)) rfl ?_
   refine⟨(((HB.out.setCell (p:=⟨w.heap.size,0,none⟩) (Nat.le_refl _) _).setCell (p:=⟨w.heap.size,1,none⟩) (Nat.le_refl _) _).setCell (p:=⟨w.heap.size,2,none⟩) (Nat.le_refl _) _).setCell (p:=⟨w.heap.size,3,none⟩) (Nat.le_refl _) _,.ok (g,E),HP.out,hgl,?_⟩
   rw[if_pos hlong]
   rfl
  ·have hlong':¬ (200:Int)<s.size:=by omega
   have hgp:=HP.out.ends.pos
   obtain⟨o,ho⟩:=qh (inp:=s.data.toList) HP.out.ends
   have HTK:=z6 (zgB hM.ted hM.blk hM.dn hgp hgl (by omega) o ho)
   have hmne:w.heap.size≠mb:=by have:=hM.mge;simp at this;omega
   have hmge:w.heap.size≤mb:=by have:=hM.mge;simp at this;omega
   have HO:=z6 ho
   clear hM ho
   go_wp2_with fail
   refine HTK.out.mono ?_
   rintro _ w2 ⟨rfl,h2,h3,h4⟩
   have hz4:=h4.size
   have hu2:w2.heap[w.heap.size]? = some JD:=by rw[h4.block _ l0 (by simpa using hmne)];exact HU1.out
   have HB2:Hid (Below w.heap.size w w2):=z6 (HB.out.trans (h4.belowOf (by simpa using hmge) (by omega)))
   have z2:=z8 hu2
   have f2:=zi hu2
   have l2:=za hu2
   have HU2:=z6 hu2
   have HZ:Hid (∀ w',Below w.heap.size w w'→zko t.data.toList s w (.returned (.tuple #[J1 0 0 o,.bool o.isSome,.int .i64 0])) w'):=z6 (fun w' hb=>by
    refine⟨hb,.ok (g,E),HP.out,hgl,?_⟩
    rw[if_neg hlong]
    exact⟨o,fun _=>HO.out,rfl⟩)
   obtain⟨c,nv,huv,hnv⟩:=zjw o
   have HUV:=z6 huv
   have hfin:∀ (X:World) (v:Value),X=((((w2.setCell ⟨w.heap.size,0,none⟩ (.int .i64 0)).setCell ⟨w.heap.size,1,none⟩ (.int .i64 0)).setCell ⟨w.heap.size,2,none⟩ (.int .i64 c)).setCell ⟨w.heap.size,3,none⟩ v)→Below w.heap.size w X∧X.heap[w.heap.size]? = some (.cells #[.int .i64 0,.int .i64 0,.int .i64 c,v] 108 (0,0)):=by
    rintro X v rfl
    refine⟨(((HB2.out.setCell (p:=⟨w.heap.size,0,none⟩) (Nat.le_refl _) _).setCell (p:=⟨w.heap.size,1,none⟩) (Nat.le_refl _) _).setCell (p:=⟨w.heap.size,2,none⟩) (Nat.le_refl _) _).setCell (p:=⟨w.heap.size,3,none⟩) (Nat.le_refl _) _,?_⟩
    rw[zo (zo (zo (zo HU2.out _) _) _) _];rfl
   have HFIN:=z6 hfin
   clear hfin z0 f0 l0 HU1 h2 h3 h4 hu2 HTK
   rw[huv] at HZ ⊢
   clear huv
   generalize o.isSome=ob at *
   rcases hnv with rfl | ⟨nt,nx,rfl⟩
   ·go_wp2_with fail
    have hX:=HFIN.out _ .nilIface rfl
    refine bodyPost_ret (zk8 rfl _ _ w.heap.size _ _ _ _ rfl (by rw[zm _ _ (zd hX.2)];exact hX.2) Tryz.underlying108 rfl (by kernel_rfl)) rfl ?_
    exact HZ.out _ (hX.1.alloc hX.1.size _)
   ·go_wp2_with fail
    have hX:=HFIN.out _ (.iface nt nx) rfl
    refine bodyPost_ret (zk8 rfl _ _ w.heap.size _ _ _ _ rfl (by rw[zm _ _ (zd hX.2)];exact hX.2) Tryz.underlying108 rfl (by kernel_rfl)) rfl ?_
    exact HZ.out _ (hX.1.alloc hX.1.size _)
end Go.Proofs.YtiganlkabilblaaGreatDoor
namespace Go.Proofs.YtiganlkabilblaaGreatDoor
open Go.RowKit
attribute [local go_sem ↓] Go.wp_at_zero Go.wp_at_succ
def zjh (n:Option Nat):Value:=.tuple #[.int .i64 (n.getD 0:Nat),.bool n.isSome,.int .i64 0]
def qw (t:List UInt8) (s:ByteArray) (w:World) (e:Ending) (w':World):Prop:=
 Below w.heap.size w w'∧∃ res,Zo t res∧match res with
  | .error (er,_)=>e = .returned (.tuple #[.int .i64 0,.bool false,.int .i64 er])
  | .ok (g,_)=>if 200<s.size then e = .returned (.tuple #[.int .i64 0,.bool false,.int .i64 1]) else ∃ n,e = .returned (zjh n)∧∀ o,(∀ h : 0<g.length,Ev g s.data.toList (.C g[0].choice) 0 o)→n=fin o
end Go.Proofs.YtiganlkabilblaaGreatDoor
namespace Go.Proofs.YtiganlkabilblaaGreatDoor
open Go.RowKit Thk
attribute [local go_sem ↓] Go.wp_at_zero Go.wp_at_succ
theorem zj5 (o:Out) (hn:zN o≤1000000) (w:World):Calls Tryz.prog 56 #[J1 0 0 o] w fun e w'=>e = .returned (.int .i64 (zN o))∧Below w.heap.size w w':=by
 cases o with
 | none=>
  simp only[J1,zN]
  go_enter Tryz.func56,Tryz.ntmps56
  go_wp2_with fail
  go_ret
  exact⟨rfl,zc _ _⟩
 | some x=>
  simp only[J1,zN] at hn ⊢
  have hf:=QV x.2
  generalize ntV x.2=nv at *
  generalize x.1=n at *
  rcases hf with rfl | ⟨t,v,rfl⟩
  ·go_enter Tryz.func56,Tryz.ntmps56
   go_wp2_with fail
   go_ret
   exact⟨by go_num,zc _ _⟩
  ·go_enter Tryz.func56,Tryz.ntmps56
   go_wp2_with fail
   go_ret
   exact⟨by go_num,zc _ _⟩
theorem zlo (t s:ByteArray) (w:World) (hs:t.size≤maxLen) (hs2:s.size≤maxLen) (hg:QD w) :
  Calls Tryz.prog 28 #[.string t,.string s] w fun e w'=>qw t.data.toList s w e w':=by
 have htk:=zkv t s w hs hs2 hg
 go_enter Tryz.func28,Tryz.ntmps28
 go_wp2_with fail
 refine htk.mono ?_
 rintro e w1 ⟨hb,res,hP,hE⟩
 have hz:=hb.size
 have HB:=z6 hb
 have HP:=z6 hP
 clear htk hb hP
 have hfin:∀ (n:Int) (o:Out) (b:Bool) (er:Int),zN o≤1000000→n=zN o→Calls Tryz.prog 56 #[J1 0 0 o] (w1.alloc (.cells (match J1 0 0 o with | .agg c=>c | _=>#[]) 108)) fun e w'=>e = .returned (.int .i64 n)∧Below w.heap.size w w':=by
  intro n o b er ho hn
  subst hn
  refine (zj5 o ho _).mono ?_
  rintro e w' ⟨h1,h2⟩
  exact⟨h1,(HB.out.alloc hz _).trans (h2.mono (by simp;omega))⟩
 cases res with
 | error x=>
  obtain⟨er,p⟩:=x
  obtain⟨h0,rfl⟩:=hE
  have HF:=z6 (hfin 0 none false er (Nat.zero_le _) rfl)
  simp only[J1] at HF ⊢
  clear hfin
  go_wp2_with fail
  refine HF.out.mono ?_
  rintro _ w2 ⟨rfl,hb2⟩
  have HB2:=z6 hb2
  clear hb2
  go_wp2_with fail
  go_ret3
  exact⟨HB2.out,.error (er,p),HP.out,rfl⟩
 | ok y=>
  obtain⟨g,E⟩:=y
  replace hE:=hE.2
  by_cases hlong : 200<s.size
  ·rw[if_pos hlong] at hE
   subst hE
   have HF:=z6 (hfin 0 none false 1 (Nat.zero_le _) rfl)
   simp only[J1] at HF ⊢
   clear hfin
   go_wp2_with fail
   refine HF.out.mono ?_
   rintro _ w2 ⟨rfl,hb2⟩
   have HB2:=z6 hb2
   clear hb2
   go_wp2_with fail
   go_ret3
   refine⟨HB2.out,.ok (g,E),HP.out,?_⟩
   simp only[]
   rw[if_pos hlong]
   rfl
  ·rw[if_neg hlong] at hE
   obtain⟨o,ho,rfl⟩:=hE
   have hgp:=HP.out.ends.pos
   have hev:=ho hgp
   have hle:zN o≤1000000:=by
    cases o with
    | none=>exact Nat.zero_le _
    | some x=>
     have h1:=(hev.le (Nat.zero_le _) x.1 x.2 rfl).2
     have h2:s.data.toList.length=s.size:=rfl
     simp only[zN];omega
   have HF:=z6 (hfin (zN o) o o.isSome 0 hle rfl)
   have HZ:Hid (∀ w',Below w.heap.size w w'→qw t.data.toList s w (.returned (.tuple #[.int .i64 (zN o),.bool o.isSome,.int .i64 0])) w'):=z6 (fun w' hb=>by
    refine⟨hb,.ok (g,E),HP.out,?_⟩
    simp only[]
    rw[if_neg hlong]
    refine⟨fin o,?_,fun o' h'=>by rw[hev.det _ (h' hgp)]⟩
    cases o<;>rfl)
   obtain⟨c,nv,huv,hnv⟩:=zjw o
   rw[huv] at HF ⊢
   simp only[] at HF
   clear hfin hev ho huv hle
   generalize o.isSome=ob at *
   generalize zN o=oe at *
   rcases hnv with rfl | ⟨nt,nx,rfl⟩
   ·go_wp2_with fail
    refine HF.out.mono ?_
    rintro _ w2 ⟨rfl,hb2⟩
    have HB2:=z6 hb2
    clear hb2
    go_wp2_with fail
    go_ret3
    exact HZ.out _ HB2.out
   ·go_wp2_with fail
    refine HF.out.mono ?_
    rintro _ w2 ⟨rfl,hb2⟩
    have HB2:=z6 hb2
    clear hb2
    go_wp2_with fail
    go_ret3
    exact HZ.out _ HB2.out
abbrev ZE (mb:Nat) (st:Int) (iv:Value) (c:Int) (nv:Value) (ok:Bool):Obj:=
 .cells #[z9 mb,.int .u8 st,iv,.int .i64 0,.int .i64 0,.int .i64 c,nv,.bool ok] 119 (0,0)
def rdU (mb:Nat) (st:Int) (iv:Value):Out→Obj
 | none=>ZE mb st iv 0 .nilIface false
 | some x=>ZE mb st iv x.1 (ntV x.2) true
end Go.Proofs.YtiganlkabilblaaGreatDoor
namespace Go.Proofs.YtiganlkabilblaaGreatDoor
open Go.RowKit Thk Go.Lib
attribute [local go_sem ↓] Go.wp_at_zero Go.wp_at_succ
section
variable {P : Program} (w : World)
end
theorem Tryz.infoByte:(Tryz.prog.info? 5).map (fun i=>(i.zero,i.size,i.bytes))=some (some (.int .u8 0),1,1):=by kernel_rfl
end Go.Proofs.YtiganlkabilblaaGreatDoor
namespace Go.Proofs.YtiganlkabilblaaGreatDoor
open Go.RowKit Thk
attribute [local go_sem ↓] Go.wp_at_zero Go.wp_at_succ
def Ys (t:List UInt8) (s:ByteArray) (a b c:Value):Prop:=∃ res,Zo t res∧match res with
  | .error (er,_)=>a = .int .i64 0∧b = .bool false∧c = .int .i64 er
  | .ok (g,_)=>if 200<s.size then a = .int .i64 0∧b = .bool false∧c = .int .i64 1 else ∃ o,(∀ h : 0<g.length,Ev g s.data.toList (.C g[0].choice) 0 o)∧a = .int .i64 ((fin o).getD 0:Nat)∧b = .bool (fin o).isSome∧c = .int .i64 0
theorem qw.is {t:List UInt8} {s:ByteArray} {w w':World} {e:Ending} (h:qw t s w e w'):Below w.heap.size w w'∧∃ a b c,e = .returned (.tuple #[a,b,c])∧Ys t s a b c:=by
 obtain⟨hb,res,hP,hE⟩:=h
 refine⟨hb,?_⟩
 cases res with
 | error x=>
  obtain⟨er,p⟩:=x
  exact⟨_,_,_,hE,.error (er,p),hP,rfl,rfl,rfl⟩
 | ok y=>
  obtain⟨g,E⟩:=y
  simp only[] at hE
  by_cases hlong : 200<s.size
  ·rw[if_pos hlong] at hE
   refine⟨_,_,_,hE,.ok (g,E),hP,?_⟩
   simp only[]
   rw[if_pos hlong]
   simp
  ·rw[if_neg hlong] at hE
   obtain⟨n,rfl,hn⟩:=hE
   obtain⟨o,ho⟩:=qh (inp:=s.data.toList) hP.ends
   have:=hn o (fun _=>ho)
   subst this
   refine⟨_,_,_,rfl,.ok (g,E),hP,?_⟩
   simp only[]
   rw[if_neg hlong]
   exact⟨o,fun _=>ho,by simp⟩
theorem Ys.form {t:List UInt8} {s:ByteArray} {a b c:Value} (h:Ys t s a b c):∃ (x:Int) (y:Bool) (z:Int),a = .int .i64 x∧b = .bool y∧c = .int .i64 z:=by
 obtain⟨res,hP,hE⟩:=h
 cases res with
 | error x=>exact⟨_,_,_,hE⟩
 | ok y=>
  simp only[] at hE
  split at hE
  ·exact⟨_,_,_,hE⟩
  ·obtain⟨o,_,h⟩:=hE
   exact⟨_,_,_,h⟩
theorem Ys.det {t:List UInt8} {s:ByteArray} {a b c a' b' c':Value} (h:Ys t s a b c) (h':Ys t s a' b' c'):a=a'∧b=b'∧c=c':=by
 obtain⟨res,hP,hE⟩:=h
 obtain⟨res',hP',hE'⟩:=h'
 have:=hP.det hP'
 subst this
 cases res with
 | error x=>
  obtain⟨rfl,rfl,rfl⟩:=hE
  obtain⟨rfl,rfl,rfl⟩:=hE'
  exact⟨rfl,rfl,rfl⟩
 | ok y=>
  obtain⟨g,E⟩:=y
  simp only[] at hE hE'
  by_cases hlong : 200<s.size
  ·rw[if_pos hlong] at hE hE'
   obtain⟨rfl,rfl,rfl⟩:=hE
   obtain⟨rfl,rfl,rfl⟩:=hE'
   exact⟨rfl,rfl,rfl⟩
  ·rw[if_neg hlong] at hE hE'
   obtain⟨o,ho,rfl,rfl,rfl⟩:=hE
   obtain⟨o',ho',rfl,rfl,rfl⟩:=hE'
   have:=(ho hP.ends.pos).det _ (ho' hP.ends.pos)
   subst this
   exact⟨rfl,rfl,rfl⟩
end Go.Proofs.YtiganlkabilblaaGreatDoor
