import Derived.Test.YtiganlkabilblaaGreatDoorVP14
import Derived.Test.YtiganlkabilblaaGreatDoorVP03
import Derived.Shelf.Strings.OnBuilder
import Derived.BigQuiet
import Derived.Test.YtiganlkabilblaaGreatDoorVP04
import Derived.Shelf.Strings.BuilderK
import Derived.Deep.RegionHeld
import Derived.Test.YtiganlkabilblaaGreatDoorVP22
import Derived.Test.YtiganlkabilblaaGreatDoorVP13
import Derived.Laws.AppendOwnNone
import Derived.Deep.Upon
import Derived.Test.YtiganlkabilblaaGreatDoorVP12
import Derived.Test.YtiganlkabilblaaGreatDoorVP11
import Derived.Test.YtiganlkabilblaaGreatDoorVP10
import Derived.Test.YtiganlkabilblaaGreatDoorVP09
import Derived.Deep.CutRange
import Derived.Test.YtiganlkabilblaaGreatDoorVP23
import Derived.Test.YtiganlkabilblaaGreatDoorVP26
import Derived.Lib.AppendStr
import Derived.Laws.BytesString
set_option linter.all false
set_option maxHeartbeats 64000000
set_option maxRecDepth 100000
namespace Go.Proofs.YtiganlkabilblaaGreatDoor
open Go.RowKit
attribute [local go_sem ↓] Go.wp_at_zero Go.wp_at_succ
theorem Zo.errNe {l:List UInt8} {er p:Nat} (h:Zo l (.error (er,p))):er≠0:=by
 cases h with
 | text h=>exact zce h
 | rules _ h=>cases h<;>simp
end Go.Proofs.YtiganlkabilblaaGreatDoor
namespace Go.Proofs.YtiganlkabilblaaGreatDoor
open Go.RowKit Thk
attribute [local go_sem ↓] Go.wp_at_zero Go.wp_at_succ
theorem Jv.same {w w':World} {mb:Nat} {N:List Nd} {bx:List (Nat × Nat × Nat)} {rs:List Nat} {vr:Value} {S:Nat→Prop} (h:Jv w mb N bx rs vr S) (hs:w.heap.size≤w'.heap.size) (hg:∀ b,S b→w'.heap[b]? = w.heap[b]?):Jv w' mb N bx rs vr S:=
 ⟨h.nm,fun b hb=>Nat.lt_of_lt_of_le (h.lt b hb) hs,Nat.lt_of_lt_of_le h.mlt hs,fun w2 h2 h3 h4=>h.mde w2 (Nat.le_trans hs h2) (fun b hb=>(h3 b hb).trans (hg b hb)) h4⟩
theorem Jv.below {w w':World} {mb:Nat} {N:List Nd} {bx:List (Nat × Nat × Nat)} {rs:List Nat} {vr:Value} {S:Nat→Prop} (h:Jv w mb N bx rs vr S) (hb:Below w.heap.size w w'):Jv w' mb N bx rs vr S:=
 h.same hb.size (fun b hS=>hb.block b (h.lt b hS))
theorem zgB {w:World} {mb:Nat} {N:List Nd} {bx:List (Nat × Nat × Nat)} {rs:List Nat} {vr:Value} {S:Nat→Prop} {g:List ze} {s s0:ByteArray} {tv:Value} (h:Jv w mb N bx rs vr S) (hb:w.heap[mb]? = some (Zz vr s0 tv .nilIface)) (hR:DnR N rs g) (hg : 0<g.length) (hgl:g.length≤20) (hs:s.size≤1000000) (o:Out) (ho:Ev g s.data.toList (.C g[0].choice) 0 o) :
  Calls Tryz.prog 60 #[z9 mb,.string s] w fun e w'=>e = .returned (.tuple #[J1 0 0 o,.bool o.isSome])∧w'.heap[mb]? = some (Zz vr ⟨#[]⟩ (.map none) .nilIface)∧Jv w' mb N bx rs vr S∧KpM [mb] w.heap.size w w':=by
 have hl:=hR.1
 have hr0 : 0<rs.length:=by omega
 have hd:=hR.2 0 hg hr0
 obtain⟨f,hf⟩:=(Ev.pgroup ho).simN hR rs[0] hd
 have M:=h.mde w (Nat.le_refl _) (fun _ _=>rfl) ⟨_,_,_,hb⟩
 refine (zj4 M (by omega) hs w ⟨Nat.le_refl _,fun _ _ _=>rfl,zd hb,hb⟩ f rs[0] o (List.getElem?_eq_getElem hr0) hf).mono ?_
 rintro e w' ⟨h1,h2,h3⟩
 refine⟨h1,h2.blk,h.same h3.size (fun b hS=>?_),h3⟩
 exact h3.block b (h.lt b hS) (by simp only[List.mem_singleton];rintro rfl;exact h.nm hS)
structure qx (B:Nat) (g:List ze) (w0 w':World) (mb:Nat) (N:List Nd) (bx:List (Nat × Nat × Nat)) (rs:List Nat) (vr:Value) (S:Nat→Prop):Prop where
 ted:Jv w' mb N bx rs vr S
 blk:w'.heap[mb]? = some (Zz vr ⟨#[]⟩ (.map none) .nilIface)
 dn:DnR N rs g
 mge:B≤mb
 gr:∀ b,S b→B≤b∨QA w0 b
def zaI (t:List UInt8) (w:World) (e:Ending) (w':World):Prop:=
 Below w.heap.size w w'∧∃ res,Zo t res∧match res with
  | .error (er,_)=>e = .returned (.tuple #[.pointer none,.int .i64 er])
  | .ok (g,_)=>g.length≤20∧∃ mb N bx rs vr S,e = .returned (.tuple #[z9 mb,.int .i64 0])∧qx w.heap.size g w w' mb N bx rs vr S
theorem zgl (s:ByteArray) (w:World) (hs:s.size≤maxLen) (hg:QD w) :
  Calls Tryz.prog 58 #[.string s] w fun e w'=>zaI s.data.toList w e w':=by
 have hrd:=zhC s w hs
 have HG:Hid (QD w):=hg
 clear hg
 go_enter Tryz.func58,Tryz.ntmps58
 go_wp2_with fail
 refine hrd.mono ?_
 rintro e w1 ⟨res,hP,hb,hE⟩
 have HB:Hid (Below w.heap.size w w1):=hb
 have hs1:=hb.size
 have HP:Hid (Zo s.data.toList res):=hP
 clear hrd hP hb
 cases res with
 | error x=>
  obtain⟨er,p⟩:=x
  have htd:=fun O=>zjf er p (w1.alloc O) (HG.out.below (HB.out.alloc hs1 O))
  have h0:=HP.out.errNe
  have h1:¬ (er:Int)=0:=by omega
  simp only[zS] at hE htd
  subst hE
  go_wp2_with fail
  refine (htd _).mono ?_
  rintro e w2 ⟨rfl,hb2⟩
  have HB2:Hid (Below w.heap.size w w2):=(HB.out.alloc hs1 _).trans (hb2.mono (by simp;omega))
  clear htd hb2
  go_wp2_with fail
  go_ret2
  exact⟨HB2.out,.error (er,p),HP.out,rfl⟩
 | ok y=>
  obtain⟨g,E⟩:=y
  obtain⟨hg0,hgl,a,cp,nb,eb,rfl,hGr,hFa⟩:=hE
  have htd:=fun O=>zjg (w1.alloc O)
  have hmk:=fun (W:World) (hb:Below w1.heap.size w1 W)=>zgp W (w.heap.size≤·) g a cp nb (hGr.kept (ZF hb)) (hFa.map.below hb) HP.out.gok (fun r hr=>(HP.out.ok' r hr).1) hgl
  have HMK:=z6 hmk
  clear hg0 hGr hFa hmk
  simp only[zI]
  go_wp2_with fail
  refine (htd _).mono ?_
  rintro e w2 ⟨rfl,hb2⟩
  have hz2':=hb2.size
  simp at hz2'
  have f0:w2.cell? ⟨w1.heap.size,0,none⟩=some (.map (some nb)):=by rw[hb2.cell (p:=⟨w1.heap.size,0,none⟩) (by simp)];exact z8 (zk w1 _) 0
  have HB12:Hid (Below w1.heap.size w1 w2):=(zc _ _).trans (hb2.mono (by simp))
  have HB2:Hid (Below w.heap.size w w2):=HB.out.trans (HB12.out.mono hs1)
  clear htd hb2
  go_wp2_with fail
  refine (HMK.out w2 HB12.out).mono ?_
  rintro _ w3 ⟨mb,N,bx,rs,vr,S,rfl,h1,h2,h3,h4,h5,h6⟩
  have HZ:Hid (zaI s.data.toList w (.returned (.tuple #[z9 mb,.int .i64 0])) w3):=z6 ⟨HB2.out.trans (h4.mono HB2.out.size),.ok (g,E),HP.out,hgl,mb,N,bx,rs,vr,S,rfl,h1,h2,h3,Nat.le_trans HB2.out.size h5,fun b hb=>by
   rcases h6 b hb with h' | ⟨cu,h'⟩
   ·exact .inl (Nat.le_trans HB2.out.size h')
   ·rcases Nat.lt_or_ge b w.heap.size with hl | hl
    ·exact .inr ⟨cu,by rw[← HB2.out.block b hl];exact h'⟩
    ·exact .inl hl⟩
  clear h1 h2 h3 h4 h5 h6
  go_wp2_with fail
  go_ret2
  exact HZ.out
theorem zjw (o:Out):∃ (c:Int) (nv:Value),J1 0 0 o = .agg #[.int .i64 0,.int .i64 0,.int .i64 c,nv]∧(nv = .nilIface∨∃ t v,nv = .iface t v):=by
 cases o with
 | none=>exact⟨0,.nilIface,rfl,.inl rfl⟩
 | some x=>exact⟨x.1,ntV x.2,rfl,QV x.2⟩
def zko (t:List UInt8) (s:ByteArray) (w:World) (e:Ending) (w':World):Prop:=
 Below w.heap.size w w'∧∃ res,Zo t res∧match res with
  | .error (er,_)=>er≠0∧e = .returned (.tuple #[J1 0 0 none,.bool false,.int .i64 er])
  | .ok (g,_)=>g.length≤20∧if 200<s.size then e = .returned (.tuple #[J1 0 0 none,.bool false,.int .i64 1]) else ∃ o,(∀ h : 0<g.length,Ev g s.data.toList (.C g[0].choice) 0 o)∧e = .returned (.tuple #[J1 0 0 o,.bool o.isSome,.int .i64 0])
theorem zlq {fn:Func} {p u u2:Tmp} {ty:TypeId} (h:fn.results = #[.cell p ty,.tmp u,.tmp u2]) (tmps:Array Value) (P:Program) (w:World) :
  (results fn tmps).run P w =
   ((asAddr (tmps.getD p undef)).run P w).andThen fun a w₁ => ((loadVar ty a).run P w₁).andThen fun v w₂ => .ok (.tuple #[v,tmps.getD u undef,tmps.getD u2 undef]) w₂ := by
 simp only[results,h]
 simp[Sem.run_bind,Result.andThen]
theorem zk8 {P:Program} {fn:Func} {p u u2:Tmp} {ty:TypeId} (h:fn.results = #[.cell p ty,.tmp u,.tmp u2]) (tmps:Array Value) (w:World) (g:Nat) (t:TypeId) (cs:Array Value) (fr:Nat × Nat) (d:TypeDesc)
  (hp:tmps.getD p undef = .pointer (some ⟨g,0,none⟩)) (hg:w.heap[g]? = some (.cells cs t fr))
  (hu:P.underlying ty=some d) (hd:(match d with | .struct _ | .array _ _=>true | _=>false)=true) (hi:(P.info? ty).map (·.size)=some cs.size) :
  (results fn tmps).run P w = .ok (.tuple #[.agg cs,tmps.getD u undef,tmps.getD u2 undef]) w:=by
 rw[zlq h,hp]
 simp[asAddr,run_loadVar_row w g t ty cs fr d hg hu hd hi,Result.andThen]
theorem zkv (t s:ByteArray) (w:World) (hs:t.size≤maxLen) (hs2:s.size≤maxLen) (hg:QD w) :
  Calls Tryz.prog 55 #[.string t,.string s] w fun e w'=>zko t.data.toList s w e w':=by
 unfold maxLen at hs2
 have hmd:=zgl t (w.alloc JD) hs (hg.below (zc w JD))
 go_enter Tryz.func55,Tryz.ntmps55
 go_wp2_with fail
 refine hmd.mono ?_
 rintro e w1 ⟨hb,res,hP,hE⟩
 have hz:=hb.size
 simp at hz
 have hu1:w1.heap[w.heap.size]? = some JD:=by rw[hb.block _ (by simp)];exact zk _ _
 have z0:=z8 hu1
 have f0:=zi hu1
 have l0:=za hu1
 have HU1:=z6 hu1
 have HB:Hid (Below w.heap.size w w1):=(zc w JD).trans (hb.mono (by simp))
 have HP:=z6 hP
 clear hmd hb hP hu1
 cases res with
 | error x=>
  obtain⟨er,p⟩:=x
  simp only[] at hE
  subst hE
  have h0:=HP.out.errNe
  have h1:¬ (er:Int)=0:=by omega
  go_wp2_with fail
  refine bodyPost_ret (zk8 rfl _ _ w.heap.size _ _ _ _ rfl (by rw[zo (zo (zo (zo HU1.out _) _) _) _]) Tryz.underlying108 rfl (by kernel_rfl)) rfl ?_
  exact⟨(((HB.out.setCell (p:=⟨w.heap.size,0,none⟩) (Nat.le_refl _) _).setCell (p:=⟨w.heap.size,1,none⟩) (Nat.le_refl _) _).setCell (p:=⟨w.heap.size,2,none⟩) (Nat.le_refl _) _).setCell (p:=⟨w.heap.size,3,none⟩) (Nat.le_refl _) _,.error (er,p),HP.out,h0,rfl⟩
 | ok y=>
  obtain⟨g,E⟩:=y
  obtain⟨hgl,mb,N,bx,rs,vr,S,rfl,hM⟩:=hE
  by_cases hlong : 200<s.size
  ·have hlong':(200:Int)<s.size:=by omega
   clear hM
   go_wp2_with fail
   refine bodyPost_ret (zk8 rfl _ _ w.heap.size _ _ _ _ rfl (by rw[zo (zo (zo (zo HU1.out _) _) _) _]) Tryz.underlying108 rfl (by kernel_rfl)) rfl ?_
   refine⟨(((HB.out.setCell (p:=⟨w.heap.size,0,none⟩) (Nat.le_refl _) _).setCell (p:=⟨w.heap.size,1,none⟩) (Nat.le_refl _) _).setCell (p:=⟨w.heap.size,2,none⟩) (Nat.le_refl _) _).setCell (p:=⟨w.heap.size,3,none⟩) (Nat.le_refl _) _,.ok (g,E),HP.out,hgl,?_⟩
   rw[if_pos hlong]
   rfl
  ·have hlong':¬ (200:Int)<s.size:=by omega
   have hgp:=HP.out.ends.pos
   obtain⟨o,ho⟩:=qh (inp:=s.data.toList) HP.out.ends
   have HTK:=z6 (zgB hM.ted hM.blk hM.dn hgp hgl (by omega) o ho)
   have hmne:w.heap.size≠mb:=by have:=hM.mge;simp at this;omega
   have hmge:w.heap.size≤mb:=by have:=hM.mge;simp at this;omega
   have HO:=z6 ho
   clear hM ho
   go_wp2_with fail
   refine HTK.out.mono ?_
   rintro _ w2 ⟨rfl,h2,h3,h4⟩
   have hz4:=h4.size
   have hu2:w2.heap[w.heap.size]? = some JD:=by rw[h4.block _ l0 (by simpa using hmne)];exact HU1.out
   have HB2:Hid (Below w.heap.size w w2):=z6 (HB.out.trans (h4.belowOf (by simpa using hmge) (by omega)))
   have z2:=z8 hu2
   have f2:=zi hu2
   have l2:=za hu2
   have HU2:=z6 hu2
   have HZ:Hid (∀ w',Below w.heap.size w w'→zko t.data.toList s w (.returned (.tuple #[J1 0 0 o,.bool o.isSome,.int .i64 0])) w'):=z6 (fun w' hb=>by
    refine⟨hb,.ok (g,E),HP.out,hgl,?_⟩
    rw[if_neg hlong]
    exact⟨o,fun _=>HO.out,rfl⟩)
   obtain⟨c,nv,huv,hnv⟩:=zjw o
   have HUV:=z6 huv
   have hfin:∀ (X:World) (v:Value),X=((((w2.setCell ⟨w.heap.size,0,none⟩ (.int .i64 0)).setCell ⟨w.heap.size,1,none⟩ (.int .i64 0)).setCell ⟨w.heap.size,2,none⟩ (.int .i64 c)).setCell ⟨w.heap.size,3,none⟩ v)→Below w.heap.size w X∧X.heap[w.heap.size]? = some (.cells #[.int .i64 0,.int .i64 0,.int .i64 c,v] 108 (0,0)):=by
    rintro X v rfl
    refine⟨(((HB2.out.setCell (p:=⟨w.heap.size,0,none⟩) (Nat.le_refl _) _).setCell (p:=⟨w.heap.size,1,none⟩) (Nat.le_refl _) _).setCell (p:=⟨w.heap.size,2,none⟩) (Nat.le_refl _) _).setCell (p:=⟨w.heap.size,3,none⟩) (Nat.le_refl _) _,?_⟩
    rw[zo (zo (zo (zo HU2.out _) _) _) _];rfl
   have HFIN:=z6 hfin
   clear hfin z0 f0 l0 HU1 h2 h3 h4 hu2 HTK
   rw[huv] at HZ ⊢
   clear huv
   generalize o.isSome=ob at *
   rcases hnv with rfl | ⟨nt,nx,rfl⟩
   ·go_wp2_with fail
    have hX:=HFIN.out _ .nilIface rfl
    refine bodyPost_ret (zk8 rfl _ _ w.heap.size _ _ _ _ rfl (by rw[zm _ _ (zd hX.2)];exact hX.2) Tryz.underlying108 rfl (by kernel_rfl)) rfl ?_
    exact HZ.out _ (hX.1.alloc hX.1.size _)
   ·go_wp2_with fail
    have hX:=HFIN.out _ (.iface nt nx) rfl
    refine bodyPost_ret (zk8 rfl _ _ w.heap.size _ _ _ _ rfl (by rw[zm _ _ (zd hX.2)];exact hX.2) Tryz.underlying108 rfl (by kernel_rfl)) rfl ?_
    exact HZ.out _ (hX.1.alloc hX.1.size _)
end Go.Proofs.YtiganlkabilblaaGreatDoor
namespace Go.Proofs.YtiganlkabilblaaGreatDoor
open Go.RowKit
attribute [local go_sem ↓] Go.wp_at_zero Go.wp_at_succ
def zjh (n:Option Nat):Value:=.tuple #[.int .i64 (n.getD 0:Nat),.bool n.isSome,.int .i64 0]
def qw (t:List UInt8) (s:ByteArray) (w:World) (e:Ending) (w':World):Prop:=
 Below w.heap.size w w'∧∃ res,Zo t res∧match res with
  | .error (er,_)=>e = .returned (.tuple #[.int .i64 0,.bool false,.int .i64 er])
  | .ok (g,_)=>if 200<s.size then e = .returned (.tuple #[.int .i64 0,.bool false,.int .i64 1]) else ∃ n,e = .returned (zjh n)∧∀ o,(∀ h : 0<g.length,Ev g s.data.toList (.C g[0].choice) 0 o)→n=fin o
end Go.Proofs.YtiganlkabilblaaGreatDoor
namespace Go.Proofs.YtiganlkabilblaaGreatDoor
open Go.RowKit Thk
attribute [local go_sem ↓] Go.wp_at_zero Go.wp_at_succ
theorem zj5 (o:Out) (hn:zN o≤1000000) (w:World):Calls Tryz.prog 56 #[J1 0 0 o] w fun e w'=>e = .returned (.int .i64 (zN o))∧Below w.heap.size w w':=by
 cases o with
 | none=>
  simp only[J1,zN]
  go_enter Tryz.func56,Tryz.ntmps56
  go_wp2_with fail
  go_ret
  exact⟨rfl,zc _ _⟩
 | some x=>
  simp only[J1,zN] at hn ⊢
  have hf:=QV x.2
  generalize ntV x.2=nv at *
  generalize x.1=n at *
  rcases hf with rfl | ⟨t,v,rfl⟩
  ·go_enter Tryz.func56,Tryz.ntmps56
   go_wp2_with fail
   go_ret
   exact⟨by go_num,zc _ _⟩
  ·go_enter Tryz.func56,Tryz.ntmps56
   go_wp2_with fail
   go_ret
   exact⟨by go_num,zc _ _⟩
theorem zlo (t s:ByteArray) (w:World) (hs:t.size≤maxLen) (hs2:s.size≤maxLen) (hg:QD w) :
  Calls Tryz.prog 28 #[.string t,.string s] w fun e w'=>qw t.data.toList s w e w':=by
 have htk:=zkv t s w hs hs2 hg
 go_enter Tryz.func28,Tryz.ntmps28
 go_wp2_with fail
 refine htk.mono ?_
 rintro e w1 ⟨hb,res,hP,hE⟩
 have hz:=hb.size
 have HB:=z6 hb
 have HP:=z6 hP
 clear htk hb hP
 have hfin:∀ (n:Int) (o:Out) (b:Bool) (er:Int),zN o≤1000000→n=zN o→Calls Tryz.prog 56 #[J1 0 0 o] (w1.alloc (.cells (match J1 0 0 o with | .agg c=>c | _=>#[]) 108)) fun e w'=>e = .returned (.int .i64 n)∧Below w.heap.size w w':=by
  intro n o b er ho hn
  subst hn
  refine (zj5 o ho _).mono ?_
  rintro e w' ⟨h1,h2⟩
  exact⟨h1,(HB.out.alloc hz _).trans (h2.mono (by simp;omega))⟩
 cases res with
 | error x=>
  obtain⟨er,p⟩:=x
  obtain⟨h0,rfl⟩:=hE
  have HF:=z6 (hfin 0 none false er (Nat.zero_le _) rfl)
  simp only[J1] at HF ⊢
  clear hfin
  go_wp2_with fail
  refine HF.out.mono ?_
  rintro _ w2 ⟨rfl,hb2⟩
  have HB2:=z6 hb2
  clear hb2
  go_wp2_with fail
  go_ret3
  exact⟨HB2.out,.error (er,p),HP.out,rfl⟩
 | ok y=>
  obtain⟨g,E⟩:=y
  replace hE:=hE.2
  by_cases hlong : 200<s.size
  ·rw[if_pos hlong] at hE
   subst hE
   have HF:=z6 (hfin 0 none false 1 (Nat.zero_le _) rfl)
   simp only[J1] at HF ⊢
   clear hfin
   go_wp2_with fail
   refine HF.out.mono ?_
   rintro _ w2 ⟨rfl,hb2⟩
   have HB2:=z6 hb2
   clear hb2
   go_wp2_with fail
   go_ret3
   refine⟨HB2.out,.ok (g,E),HP.out,?_⟩
   simp only[]
   rw[if_pos hlong]
   rfl
  ·rw[if_neg hlong] at hE
   obtain⟨o,ho,rfl⟩:=hE
   have hgp:=HP.out.ends.pos
   have hev:=ho hgp
   have hle:zN o≤1000000:=by
    cases o with
    | none=>exact Nat.zero_le _
    | some x=>
     have h1:=(hev.le (Nat.zero_le _) x.1 x.2 rfl).2
     have h2:s.data.toList.length=s.size:=rfl
     simp only[zN];omega
   have HF:=z6 (hfin (zN o) o o.isSome 0 hle rfl)
   have HZ:Hid (∀ w',Below w.heap.size w w'→qw t.data.toList s w (.returned (.tuple #[.int .i64 (zN o),.bool o.isSome,.int .i64 0])) w'):=z6 (fun w' hb=>by
    refine⟨hb,.ok (g,E),HP.out,?_⟩
    simp only[]
    rw[if_neg hlong]
    refine⟨fin o,?_,fun o' h'=>by rw[hev.det _ (h' hgp)]⟩
    cases o<;>rfl)
   obtain⟨c,nv,huv,hnv⟩:=zjw o
   rw[huv] at HF ⊢
   simp only[] at HF
   clear hfin hev ho huv hle
   generalize o.isSome=ob at *
   generalize zN o=oe at *
   rcases hnv with rfl | ⟨nt,nx,rfl⟩
   ·go_wp2_with fail
    refine HF.out.mono ?_
    rintro _ w2 ⟨rfl,hb2⟩
    have HB2:=z6 hb2
    clear hb2
    go_wp2_with fail
    go_ret3
    exact HZ.out _ HB2.out
   ·go_wp2_with fail
    refine HF.out.mono ?_
    rintro _ w2 ⟨rfl,hb2⟩
    have HB2:=z6 hb2
    clear hb2
    go_wp2_with fail
    go_ret3
    exact HZ.out _ HB2.out
abbrev ZE (mb:Nat) (st:Int) (iv:Value) (c:Int) (nv:Value) (ok:Bool):Obj:=
 .cells #[z9 mb,.int .u8 st,iv,.int .i64 0,.int .i64 0,.int .i64 c,nv,.bool ok] 119 (0,0)
theorem Ke {w:World} {rb mb:Nat} {st q:Int} {iv:Value} {c:Int} {nv:Value} {ok:Bool} (h:w.heap[rb]? = some (ZE mb st iv c nv ok)) :
  Calls Tryz.prog 59 #[z9 rb,.int .u8 q] w fun e w'=>e = .returned (.bool (decide (st=q)))∧w'=w:=by
 have hl:=zd h
 have q1:w.cell? ⟨rb,1,none⟩=some (.int .u8 st):=z8 h 1
 clear h
 go_enter Tryz.func59,Tryz.ntmps59
 go_wp2_with fail
 go_ret
 exact⟨by by_cases hq:st=q<;>simp[hq],rfl⟩
def zdx (t:List UInt8) (w:World) (e:Ending) (w':World):Prop:=
 Below w.heap.size w w'∧∃ res,Zo t res∧match res with
  | .error (er,_)=>er≠0∧e = .returned (.tuple #[.pointer none,.int .i64 er])
  | .ok (g,_)=>g.length≤20∧∃ rb mb N bx rs vr S,e = .returned (.tuple #[z9 rb,.int .i64 0])∧qx w.heap.size g w w' mb N bx rs vr S∧w'.heap[rb]? = some (ZE mb 1 (.slice none 0 0) 0 .nilIface false)∧w.heap.size≤rb∧rb≠mb∧¬ S rb
theorem zhk (s:ByteArray) (w:World) (hs:s.size≤maxLen) (hg:QD w) :
  Calls Tryz.prog 31 #[.string s] w fun e w'=>zdx s.data.toList w e w':=by
 have hmd:=zgl s w hs hg
 clear hg
 go_enter Tryz.func31,Tryz.ntmps31
 go_wp2_with fail
 refine hmd.mono ?_
 rintro e w1 ⟨hb,res,hP,hE⟩
 have hz:=hb.size
 have HB:=z6 hb
 have HP:=z6 hP
 clear hmd hb hP
 cases res with
 | error x=>
  obtain⟨er,p⟩:=x
  have h0:=HP.out.errNe
  have h1:¬ (er:Int)=0:=by omega
  subst hE
  go_wp2_with fail
  go_ret2
  exact⟨HB.out,.error (er,p),HP.out,by omega,rfl⟩
 | ok y=>
  obtain⟨g,E⟩:=y
  obtain⟨hgl,mb,N,bx,rs,vr,S,rfl,hM⟩:=hE
  have HM:=z6 hM
  clear hM
  go_wp2_with fail
  go_ret2
  refine⟨HB.out.alloc hz _,.ok (g,E),HP.out,hgl,w1.heap.size,mb,N,bx,rs,vr,S,rfl,?_,zk _ _,hz,Nat.ne_of_gt (zd HM.out.blk),fun h=>Nat.lt_irrefl _ (HM.out.ted.lt _ h)⟩
  exact⟨HM.out.ted.below (zc _ _),by rw[zm _ _ (zd HM.out.blk)];exact HM.out.blk,HM.out.dn,HM.out.mge,HM.out.gr⟩
theorem zff {w:World} {b:Nat} {a0 a1 a2 a3 a4 a5 a6 a7:Value} {t:TypeId} {fr:Nat × Nat} (h:w.heap[b]? = some (.cells #[a0,a1,a2,a3,a4,a5,a6,a7] t fr)) (u0 u1 u2 u3 u4 u5 u6 u7:Value) :
  ((((((((w.setCell ⟨b,0,none⟩ u0).setCell ⟨b,1,none⟩ u1).setCell ⟨b,2,none⟩ u2).setCell ⟨b,3,none⟩ u3).setCell ⟨b,4,none⟩ u4).setCell ⟨b,5,none⟩ u5).setCell ⟨b,6,none⟩ u6).setCell ⟨b,7,none⟩ u7).heap[b]? = some (.cells #[u0,u1,u2,u3,u4,u5,u6,u7] t fr):=by
 have h0:(w.setCell ⟨b,0,none⟩ u0).heap[b]? = some (.cells #[u0,a1,a2,a3,a4,a5,a6,a7] t fr):=zo h u0
 have h1:((w.setCell ⟨b,0,none⟩ u0).setCell ⟨b,1,none⟩ u1).heap[b]? = some (.cells #[u0,u1,a2,a3,a4,a5,a6,a7] t fr):=zo h0 u1
 have h2:(((w.setCell ⟨b,0,none⟩ u0).setCell ⟨b,1,none⟩ u1).setCell ⟨b,2,none⟩ u2).heap[b]? = some (.cells #[u0,u1,u2,a3,a4,a5,a6,a7] t fr):=zo h1 u2
 have h3:((((w.setCell ⟨b,0,none⟩ u0).setCell ⟨b,1,none⟩ u1).setCell ⟨b,2,none⟩ u2).setCell ⟨b,3,none⟩ u3).heap[b]? = some (.cells #[u0,u1,u2,u3,a4,a5,a6,a7] t fr):=zo h2 u3
 have h4:(((((w.setCell ⟨b,0,none⟩ u0).setCell ⟨b,1,none⟩ u1).setCell ⟨b,2,none⟩ u2).setCell ⟨b,3,none⟩ u3).setCell ⟨b,4,none⟩ u4).heap[b]? = some (.cells #[u0,u1,u2,u3,u4,a5,a6,a7] t fr):=zo h3 u4
 have h5:((((((w.setCell ⟨b,0,none⟩ u0).setCell ⟨b,1,none⟩ u1).setCell ⟨b,2,none⟩ u2).setCell ⟨b,3,none⟩ u3).setCell ⟨b,4,none⟩ u4).setCell ⟨b,5,none⟩ u5).heap[b]? = some (.cells #[u0,u1,u2,u3,u4,u5,a6,a7] t fr):=zo h4 u5
 have h6:(((((((w.setCell ⟨b,0,none⟩ u0).setCell ⟨b,1,none⟩ u1).setCell ⟨b,2,none⟩ u2).setCell ⟨b,3,none⟩ u3).setCell ⟨b,4,none⟩ u4).setCell ⟨b,5,none⟩ u5).setCell ⟨b,6,none⟩ u6).heap[b]? = some (.cells #[u0,u1,u2,u3,u4,u5,u6,a7] t fr):=zo h5 u6
 have h7:((((((((w.setCell ⟨b,0,none⟩ u0).setCell ⟨b,1,none⟩ u1).setCell ⟨b,2,none⟩ u2).setCell ⟨b,3,none⟩ u3).setCell ⟨b,4,none⟩ u4).setCell ⟨b,5,none⟩ u5).setCell ⟨b,6,none⟩ u6).setCell ⟨b,7,none⟩ u7).heap[b]? = some (.cells #[u0,u1,u2,u3,u4,u5,u6,u7] t fr):=zo h6 u7
 exact h7
theorem zc3 {w:World} {rb mb:Nat} {st:Int} {iv:Value} {c:Int} {nv:Value} {ok:Bool} (h:w.heap[rb]? = some (ZE mb st iv c nv ok)) :
  Calls Tryz.prog 36 #[z9 rb] w fun e w'=>KpM [rb] w.heap.size w w'∧if st=2 then e = .returned (.int .i64 0)∧w'.heap[rb]? = some (ZE mb 1 (.slice none 0 0) 0 .nilIface false) else e = .returned (.int .i64 11)∧w'=w:=by
 have hl:=zd h
 have HI:=z6 (Ke (q:=2) h)
 have z0:=z8 h
 have f0:=zi h
 have l0:=za h
 have H:=z6 h
 clear h
 go_enter Tryz.func36,Tryz.ntmps36
 go_wp2_with fail
 refine HI.out.mono ?_
 rintro _ w1 ⟨rfl,rfl⟩
 by_cases hst:st=2
 ·simp only[hst,decide_true,if_true]
  go_wp2_with fail
  go_ret
  exact⟨((((((((KpM.refl _ _ _).set (List.mem_singleton.mpr rfl) _).set (List.mem_singleton.mpr rfl) _).set (List.mem_singleton.mpr rfl) _).set (List.mem_singleton.mpr rfl) _).set (List.mem_singleton.mpr rfl) _).set (List.mem_singleton.mpr rfl) _).set (List.mem_singleton.mpr rfl) _).set (List.mem_singleton.mpr rfl) _,rfl,zff H.out _ _ _ _ _ _ _ _⟩
 ·simp only[hst,decide_false,if_false]
  go_wp2_with fail
  go_ret
  exact⟨KpM.refl _ _ _,rfl,rfl⟩
def rdU (mb:Nat) (st:Int) (iv:Value):Out→Obj
 | none=>ZE mb st iv 0 .nilIface false
 | some x=>ZE mb st iv x.1 (ntV x.2) true
theorem zcc (mb:Nat) (st:Int) (iv:Value) (o:Out):∃ c nv,rdU mb st iv o=ZE mb st iv c nv o.isSome:=by
 cases o with
 | none=>exact⟨_,_,rfl⟩
 | some x=>exact⟨_,_,rfl⟩
theorem zhl {w:World} {rb mb:Nat} {st:Int} {iv:Value} {c:Int} {nv:Value} {ok:Bool} (h:w.heap[rb]? = some (ZE mb st iv c nv ok)) (hst:¬ st=2) :
  Calls Tryz.prog 34 #[z9 rb] w fun e w'=>e = .returned (.tuple #[.slice none 0 0,.int .i64 11])∧w'=w:=by
 have HI:=z6 (Ke (q:=2) h)
 clear h
 go_enter Tryz.func34,Tryz.ntmps34
 go_wp2_with fail
 refine HI.out.mono ?_
 rintro _ w1 ⟨rfl,rfl⟩
 simp only[hst,decide_false]
 go_wp2_with fail
 go_ret2
 exact⟨rfl,rfl⟩
def U7 (o:Out) (w:World) (e:Ending) (w':World):Prop:=match o with
 | none=>e = .returned (.tuple #[.slice none 0 0,.int .i64 0])∧w'=w
 | some x=>∃ a c,e = .returned (.tuple #[.slice a (zY 0 (.use 0 0 x.1 x.2)).length c,.int .i64 0])∧w'.ownsRow w.heap.size 60 4 (.slice a (zY 0 (.use 0 0 x.1 x.2)).length c) (zY 0 (.use 0 0 x.1 x.2)).length ((zY 0 (.use 0 0 x.1 x.2)).flatMap ZZ)∧Below w.heap.size w w'
theorem zc8 {w:World} {rb mb:Nat} {iv:Value} {o:Out} (h:w.heap[rb]? = some (rdU mb 2 iv o)) (ho:∀ x,o=some x→wfN x.2∧szN x.2≤900000) :
  Calls Tryz.prog 34 #[z9 rb] w (U7 o w):=by
 cases o with
 | none=>
  simp only[rdU] at h
  have HI:=z6 (Ke (q:=2) h)
  have hl:=zd h
  have z0:=z8 h
  clear h ho
  go_enter Tryz.func34,Tryz.ntmps34
  go_wp2_with fail
  refine HI.out.mono ?_
  rintro _ w1 ⟨rfl,rfl⟩
  simp only[decide_true]
  go_wp2_with fail
  go_ret2
  exact⟨rfl,rfl⟩
 | some x=>
  obtain⟨e1,m⟩:=x
  obtain⟨hw,hz⟩:=ho _ rfl
  simp only[rdU] at h
  have HI:=z6 (Ke (q:=2) h)
  have hl:=zd h
  have z0:=z8 h
  have HC:=z6 (zgO w 0 0 e1 m hw hz)
  have hnf:=QV m
  clear h ho hw hz
  have HG:Hid (∀ e w',qy w (zY 0 (.use 0 0 e1 m)) e w'→∃ a n c,e = .returned (.slice a n c)∧U7 (some (e1,m)) w (.returned (.tuple #[.slice a n c,.int .i64 0])) w'):=z6 (by
   rintro e w' ⟨a,c,rfl,h1,h2⟩
   exact⟨_,_,_,rfl,a,c,rfl,h1,h2⟩)
  have HD:Hid (Calls Tryz.prog 57 #[.agg #[.int .i64 0,.int .i64 0,.int .i64 e1,ntV m]] w fun e w'=>∃ a n c,e = .returned (.slice a n c)∧U7 (some (e1,m)) w (.returned (.tuple #[.slice a n c,.int .i64 0])) w'):=z6 (HC.out.mono (fun e w' h=>HG.out e w' h))
  clear HC HG
  generalize U7 (some (e1,m)) w=Q at *
  generalize ntV m=nv at *
  go_enter Tryz.func34,Tryz.ntmps34
  go_wp2_with fail
  refine HI.out.mono ?_
  rintro _ w1 ⟨rfl,rfl⟩
  simp only[decide_true]
  rcases hnf with rfl | ⟨tt,vv,rfl⟩
  all_goals
   go_wp2_with fail
   refine HD.out.mono ?_
   rintro _ w2 ⟨a,n,cc,rfl,HZ⟩
   have HZ':=z6 HZ
   clear HD HZ
   go_wp2_with fail
   exact HZ'.out
end Go.Proofs.YtiganlkabilblaaGreatDoor
namespace Go.Proofs.YtiganlkabilblaaGreatDoor
open Go.RowKit Thk Go.Lib
attribute [local go_sem ↓] Go.wp_at_zero Go.wp_at_succ
section
variable {P : Program} (w : World)
theorem ziy (base:Nat) (t u ty e:TypeId) (i:TypeInfo) (ht:P.underlying t=some (.slice e)) (hu:P.underlying u=some .string) (hi:P.info? e=some i) (hz:i.zero=some (.int .u8 0))
  (hsize:i.size=1) (hby:i.bytes=1) (v:Value) (n:Nat) (xs:List Value) (hown:w.ownsRow base e 1 v n xs) (s:ByteArray) (hb:n+s.size≤1000) (hbase:base≤w.heap.size) :
  ∃ v' w',(Builtin.append_ #[t,u] ty #[v,.string s]).run P w = .ok v' w'∧w'.ownsRow base e 1 v' (n+s.size) (xs++strCells s)∧w.grownBy w' v.ownBlock∧(v'.ownBlock=v.ownBlock∨∃ g,v'.ownBlock=some g∧w.heap.size≤g):=by
 have hm:n+s.size≤maxLen:=by unfold maxLen;omega
 rcases hown.2 with ⟨rfl,rfl⟩ | ⟨g,cap,cur,rfl,hbg,hg,hnc,hcm,hcs,htake⟩
 ·have h0:w.ownsRow w.heap.size e 1 (.slice none 0 0) 0 xs:=⟨hown.1,.inl ⟨rfl,rfl⟩⟩
  obtain⟨v',w',hr,h2,h3,h4⟩:=run_append_own_string (P:=P) w w.heap.size t u ty e i ht hu hi hz hsize hby _ _ xs h0 s hm (by omega) (Nat.le_refl _)
  refine⟨v',w',hr,Zn h2 hbase,h3,?_⟩
  rcases h2.2 with ⟨rfl,_⟩ | ⟨g,cap,cur,rfl,hbg,_⟩
  ·exact .inl rfl
  ·exact .inr ⟨g,rfl,hbg⟩
 ·obtain⟨v',w',hr,h2,h3,h4⟩:=run_append_own_string (P:=P) w base t u ty e i ht hu hi hz hsize hby _ _ xs hown s hm (by omega) hbase
  refine⟨v',w',hr,h2,h3,?_⟩
  by_cases hroom:n+s.size≤cap
  ·have:=run_append_room_string (P:=P) w t u ty e i ht hu hi hsize g n cap cur hg s hroom (by omega)
   rw[this] at hr
   simp only[Result.ok.injEq] at hr
   rw[← hr.1]
   exact .inl rfl
  ·have hcells:∀ j v,xs[j]? = some v→w.cell? ((⟨g,0,none⟩:Addr).add j)=some v:=fun j u' hu'=>hown.cells (g:=g) rfl j u' hu'
   have:=run_append_grow_string (P:=P) w t u ty e i _ ht hu hi hz ⟨g,0,none⟩ n cap xs (by rw[hsize];exact hown.1) hcells s (by omega) (by omega) (growslice_fits (by omega) (by rw[hby];omega))
   rw[this] at hr
   simp only[Result.ok.injEq] at hr
   rw[← hr.1]
   exact .inr ⟨_,rfl,Nat.le_refl _⟩
theorem zjA {ops:Array Oper} {rest:List Oper} {o:Oper} {a:Act} {Q:Exit→Act→World→Prop} (hgd:o.guard=none) (sl x:Operand) (t u:TypeId)
  (ho:o.op = .call { callee:=.builtin .append,args:=#[sl,x],argTypes:=#[t,u] })
  (base:Nat) (e:TypeId) (i:TypeInfo) (ht:P.underlying t=some (.slice e)) (hu:P.underlying u=some .string) (hi:P.info? e=some i) (hz:i.zero=some (.int .u8 0))
  (hsize:i.size=1) (hby:i.bytes=1) (v:Value) (n:Nat) (xs:List Value) (hs:a.eval sl=v) (hown:w.ownsRow base e 1 v n xs) (s:ByteArray) (hx:a.eval x = .string s)
  (hb:n+s.size≤1000) (hbase:base≤w.heap.size)
  (h:∀ v' w',w'.ownsRow base e 1 v' (n+s.size) (xs++strCells s)→w.grownBy w' v.ownBlock→(v'.ownBlock=v.ownBlock∨∃ g,v'.ownBlock=some g∧w.heap.size≤g)→wpList P ops Q rest (a.put o.dst v') w'):wpList P ops Q (o::rest) a w:=by
 refine wpList_plain hgd fun K hK=>?_
 obtain⟨v',w',hr,h2,h3,h4⟩:=ziy (P:=P) w base t u o.type e i ht hu hi hz hsize hby v n xs hown s hb hbase
 unfold Oper.wp execOp
 simp only[ho,resolve,invoke,builtin,Sem.run_bind,Sem.run_pure,Result.andThen_ok,List.map_toArray,List.map_cons,List.map_nil,hs,hx,hr]
 exact hK _ _ (h v' w' h2 h3 h4)
end
theorem zc0 {w:World} {B n rb o:Nat} {e:TypeId} {k:Nat} {v u:Value} {xs:List Value} (h:w.ownsRow B e k v n xs) (hn:v.ownBlock≠some rb):(w.setCell ⟨rb,o,none⟩ u).ownsRow B e k v n xs:=by
 refine⟨h.1,?_⟩
 rcases h.2 with h' | ⟨g,cap,cur,rfl,h1,h2,h3⟩
 ·exact .inl h'
 ·refine .inr ⟨g,cap,cur,rfl,h1,?_,h3⟩
  rw[Below.heap_setCell _ _ _ _ (fun he=>hn (congrArg some he))]
  exact h2
theorem Tryz.infoByte:(Tryz.prog.info? 5).map (fun i=>(i.zero,i.size,i.bytes))=some (some (.int .u8 0),1,1):=by kernel_rfl
def Kq (rb mb B:Nat) (st c:Int) (iv nv:Value) (ok:Bool) (s p:ByteArray) (w:World) (e:Ending) (w':World):Prop:=
 if st=1 then (if 200<s.size+p.size then e = .returned (.int .i64 9)∧w'=w else
  e = .returned (.int .i64 0)∧∃ iv',w'.heap[rb]? = some (ZE mb 1 iv' c nv ok)∧w'.ownsRow B 5 1 iv' (s.size+p.size) (strCells s++strCells p)∧GrW w w' (fun x=>x=rb∨iv.ownBlock=some x)∧(iv'.ownBlock=iv.ownBlock∨∃ g,iv'.ownBlock=some g∧w.heap.size≤g))
 else e = .returned (.int .i64 10)∧w'=w
theorem zc5 {w:World} {rb mb B:Nat} {st c:Int} {iv nv:Value} {ok:Bool} {s p:ByteArray} (h:w.heap[rb]? = some (ZE mb st iv c nv ok)) (hs:s.size≤200) (hp:p.size≤281474976710656)
  (hown:w.ownsRow B 5 1 iv s.size (strCells s)) (hB:B≤w.heap.size) (hne:iv.ownBlock≠some rb) :
  Calls Tryz.prog 33 #[z9 rb,.string p] w (Kq rb mb B st c iv nv ok s p w):=by
 have HI:=z6 (Ke (q:=1) h)
 have hl:=zd h
 have z0:=z8 h
 have H:=z6 h
 have HOWN:=z6 hown
 have hform:∃ a cc,iv = .slice a s.size cc:=by
  rcases hown.2 with ⟨rfl,h0⟩ | ⟨g,cap,cur,rfl,_⟩
  ·exact⟨_,_,by rw[h0]⟩
  ·exact⟨_,_,rfl⟩
 obtain⟨a,cc,rfl⟩:=hform
 clear h hown
 go_enter Tryz.func33,Tryz.ntmps33
 go_wp2_with fail
 refine HI.out.mono ?_
 rintro _ w1 ⟨rfl,rfl⟩
 clear HI
 by_cases hst:st=1
 ·subst hst
  simp only[decide_true]
  by_cases hlong : 200<s.size+p.size
  ·have hlong':(200:Int)<(s.size:Int)+(p.size:Int):=by omega
   go_wp2_with fail
   go_ret
   unfold Kq
   rw[if_pos rfl,if_pos hlong]
   exact⟨rfl,rfl⟩
  ·have hlong':¬ (200:Int)<(s.size:Int)+(p.size:Int):=by omega
   obtain⟨i0,hi0,hz0,hz1,hz2⟩:=info_parts Tryz.infoByte
   go_wp2_with (first | (at_builtin;refine zjA _ rfl _ _ 117 9 rfl B 5 i0 Tryz.underlying117 Tryz.underlying9 hi0 hz0 hz1 hz2 _ _ _ rfl HOWN.out p rfl (by omega) hB ?_))
   intro v' w2 h2 h3 h4
   obtain⟨a',cc',rfl⟩:∃ a' cc',v' = .slice a' (s.size+p.size) cc':=by
    rcases h2.2 with ⟨rfl,h0⟩ | ⟨g,cap,cur,rfl,_⟩
    ·exact⟨_,_,by rw[h0]⟩
    ·exact⟨_,_,rfl⟩
   have hb2:w2.heap[rb]? = some (ZE mb 1 (.slice a s.size cc) c nv ok):=by rw[h3.block rb hl (fun he=>hne he.symm)];exact H.out
   have y1:=z8 hb2
   have y2:=zi hb2
   have y3:=za hb2
   have HB2:=z6 hb2
   have H2:=z6 h2
   have H3:=z6 h3
   have H4:=z6 h4
   clear h2 h3 h4 hb2
   go_wp2_with fail
   go_ret
   unfold Kq
   rw[if_pos rfl,if_neg hlong]
   have hnr:(Value.slice a' (s.size+p.size) cc').ownBlock≠some rb:=by
    rcases H4.out with h4 | ⟨g,h4,h5⟩
    ·rw[h4];exact hne
    ·rw[h4];intro he;cases he;omega
   refine⟨rfl,_,zo HB2.out _,zc0 H2.out hnr,⟨H3.out.os,H3.out.tape,H3.out.output,by simpa [World.setCell] using H3.out.size,fun k hk hn=>?_⟩,H4.out⟩
   rw[Below.heap_setCell _ _ _ _ (fun he=>hn (.inl he)),H3.out.block k hk (fun he=>hn (.inr he.symm))]
 ·simp only[hst,decide_false]
  go_wp2_with fail
  go_ret
  unfold Kq
  rw[if_neg hst]
  exact⟨rfl,rfl⟩
theorem zf1 (l:List UInt8) (a:ByteArray):((l.map (fun b=>(b.toNat:Int))).foldl (fun r n=>r.push (UInt8.ofNat n.toNat)) a)=⟨(a.data.toList++l).toArray⟩:=by
 induction l generalizing a with
 | nil=>simp
 | cons b l ih=>
  simp only[List.map_cons,List.foldl_cons]
  rw[ih]
  simp[ByteArray.push]
theorem zcy {w:World} {B:Nat} {v:Value} {s:ByteArray} (h:w.ownsRow B 5 1 v s.size (strCells s)):(convert 117 9 v).run Tryz.prog w = .ok (.string s) w:=by
 have hu:Tryz.prog.underlying 5=some (.int .u8):=by kernel_rfl
 rcases h.2 with ⟨rfl,h0⟩ | ⟨g,cap,cur,rfl,hbg,hg,hnc,hcm,hcs,htake⟩
 ·rw[run_convert_bytes_string w _ _ _ _ _ _ Tryz.underlying117 hu Tryz.underlying9]
  have hs:s=⟨#[]⟩:=by
   apply ByteArray.ext
   exact Array.eq_empty_of_size_eq_zero h0
  subst hs
  rfl
 ·rw[run_convert_bytes_string w _ _ _ _ _ _ Tryz.underlying117 hu Tryz.underlying9]
  have hns:strCells s=(s.data.toList.map (fun b=>(b.toNat:Int))).map (Value.int .u8):=by
   rw[strCells,List.map_map]
   rfl
  have hl:=run_loadCells_list (P:=Tryz.prog) w ⟨g,0,none⟩ (strCells s) (fun j u hu=>h.cells (g:=g) rfl j u hu)
  rw[strCells_length,hns] at hl
  rw[run_bytesToString w ⟨g,0,none⟩ s.size cap _ hl,zf1]
  simp
theorem zhx {o:Out} {c:Int} {nv:Value} (h:J1 0 0 o = .agg #[.int .i64 0,.int .i64 0,.int .i64 c,nv]) (mb:Nat) (st:Int) (iv:Value):rdU mb st iv o=ZE mb st iv c nv o.isSome:=by
 cases o with
 | none=>
  simp[J1] at h
  obtain⟨rfl,rfl⟩:=h
  rfl
 | some x=>
  simp[J1] at h
  obtain⟨rfl,rfl⟩:=h
  rfl
theorem zeK {w1 w2:World} {rb mb:Nat} {iv nv vr:Value} {c:Int} {ok:Bool} (hr:w2.heap[rb]? = some (ZE mb 1 iv c nv ok)) (hm:w2.heap[mb]? = some (Zz vr ⟨#[]⟩ (.map none) .nilIface)) (hk:KpM [mb] w1.drew.heap.size w1.drew w2) (hne:rb≠mb) (c':Int) (nv':Value) (b:Bool) :
  (((((((w2.setCell ⟨rb,3,none⟩ (.int .i64 0)).setCell ⟨rb,4,none⟩ (.int .i64 0)).setCell ⟨rb,5,none⟩ (.int .i64 c')).setCell ⟨rb,6,none⟩ nv').setCell ⟨rb,7,none⟩ (.bool b)).setCell ⟨rb,1,none⟩ (.int .u8 2)).setCell ⟨rb,2,none⟩ (.slice none 0 0)).heap[rb]? = some (ZE mb 2 (.slice none 0 0) c' nv' b)∧(((((((w2.setCell ⟨rb,3,none⟩ (.int .i64 0)).setCell ⟨rb,4,none⟩ (.int .i64 0)).setCell ⟨rb,5,none⟩ (.int .i64 c')).setCell ⟨rb,6,none⟩ nv').setCell ⟨rb,7,none⟩ (.bool b)).setCell ⟨rb,1,none⟩ (.int .u8 2)).setCell ⟨rb,2,none⟩ (.slice none 0 0)).heap[mb]? = some (Zz vr ⟨#[]⟩ (.map none) .nilIface)∧KpM [rb,mb] w1.heap.size w1 (((((((w2.setCell ⟨rb,3,none⟩ (.int .i64 0)).setCell ⟨rb,4,none⟩ (.int .i64 0)).setCell ⟨rb,5,none⟩ (.int .i64 c')).setCell ⟨rb,6,none⟩ nv').setCell ⟨rb,7,none⟩ (.bool b)).setCell ⟨rb,1,none⟩ (.int .u8 2)).setCell ⟨rb,2,none⟩ (.slice none 0 0)):=by
 refine⟨?_,?_,?_⟩
 ·have h0:(w2.setCell ⟨rb,3,none⟩ (.int .i64 0)).heap[rb]? = some (ZE mb 1 iv c nv ok):=zo hr _
  have h1:((w2.setCell ⟨rb,3,none⟩ (.int .i64 0)).setCell ⟨rb,4,none⟩ (.int .i64 0)).heap[rb]? = some (ZE mb 1 iv c nv ok):=zo h0 _
  have h2:=zo (o:=5) h1 (.int .i64 c')
  have h3:=zo (o:=6) h2 nv'
  have h4:=zo (o:=7) h3 (.bool b)
  have h5:=zo (o:=1) h4 (.int .u8 2)
  have h6:=zo (o:=2) h5 (.slice none 0 0)
  rw[h6]
  simp
 ·have hb:mb≠rb:=fun e=>hne e.symm
  rw[Below.heap_setCell _ _ _ _ hb,Below.heap_setCell _ _ _ _ hb,Below.heap_setCell _ _ _ _ hb,Below.heap_setCell _ _ _ _ hb,Below.heap_setCell _ _ _ _ hb,Below.heap_setCell _ _ _ _ hb,Below.heap_setCell _ _ _ _ hb]
  exact hm
 ·have h0:KpM [rb,mb] w1.heap.size w1 w2:=⟨hk.os,hk.tape,hk.output,hk.size,fun k hlt hn=>hk.block k hlt (fun h=>hn (by simp at h ⊢;exact .inr h))⟩
  exact ((((((h0.set (by simp) _).set (by simp) _).set (by simp) _).set (by simp) _).set (by simp) _).set (by simp) _).set (by simp) _
end Go.Proofs.YtiganlkabilblaaGreatDoor
namespace Go.Proofs.YtiganlkabilblaaGreatDoor
open Go.RowKit Thk
attribute [local go_sem ↓] Go.wp_at_zero Go.wp_at_succ
def Ys (t:List UInt8) (s:ByteArray) (a b c:Value):Prop:=∃ res,Zo t res∧match res with
  | .error (er,_)=>a = .int .i64 0∧b = .bool false∧c = .int .i64 er
  | .ok (g,_)=>if 200<s.size then a = .int .i64 0∧b = .bool false∧c = .int .i64 1 else ∃ o,(∀ h : 0<g.length,Ev g s.data.toList (.C g[0].choice) 0 o)∧a = .int .i64 ((fin o).getD 0:Nat)∧b = .bool (fin o).isSome∧c = .int .i64 0
theorem qw.is {t:List UInt8} {s:ByteArray} {w w':World} {e:Ending} (h:qw t s w e w'):Below w.heap.size w w'∧∃ a b c,e = .returned (.tuple #[a,b,c])∧Ys t s a b c:=by
 obtain⟨hb,res,hP,hE⟩:=h
 refine⟨hb,?_⟩
 cases res with
 | error x=>
  obtain⟨er,p⟩:=x
  exact⟨_,_,_,hE,.error (er,p),hP,rfl,rfl,rfl⟩
 | ok y=>
  obtain⟨g,E⟩:=y
  simp only[] at hE
  by_cases hlong : 200<s.size
  ·rw[if_pos hlong] at hE
   refine⟨_,_,_,hE,.ok (g,E),hP,?_⟩
   simp only[]
   rw[if_pos hlong]
   simp
  ·rw[if_neg hlong] at hE
   obtain⟨n,rfl,hn⟩:=hE
   obtain⟨o,ho⟩:=qh (inp:=s.data.toList) hP.ends
   have:=hn o (fun _=>ho)
   subst this
   refine⟨_,_,_,rfl,.ok (g,E),hP,?_⟩
   simp only[]
   rw[if_neg hlong]
   exact⟨o,fun _=>ho,by simp⟩
theorem Ys.form {t:List UInt8} {s:ByteArray} {a b c:Value} (h:Ys t s a b c):∃ (x:Int) (y:Bool) (z:Int),a = .int .i64 x∧b = .bool y∧c = .int .i64 z:=by
 obtain⟨res,hP,hE⟩:=h
 cases res with
 | error x=>exact⟨_,_,_,hE⟩
 | ok y=>
  simp only[] at hE
  split at hE
  ·exact⟨_,_,_,hE⟩
  ·obtain⟨o,_,h⟩:=hE
   exact⟨_,_,_,h⟩
theorem Ys.det {t:List UInt8} {s:ByteArray} {a b c a' b' c':Value} (h:Ys t s a b c) (h':Ys t s a' b' c'):a=a'∧b=b'∧c=c':=by
 obtain⟨res,hP,hE⟩:=h
 obtain⟨res',hP',hE'⟩:=h'
 have:=hP.det hP'
 subst this
 cases res with
 | error x=>
  obtain⟨rfl,rfl,rfl⟩:=hE
  obtain⟨rfl,rfl,rfl⟩:=hE'
  exact⟨rfl,rfl,rfl⟩
 | ok y=>
  obtain⟨g,E⟩:=y
  simp only[] at hE hE'
  by_cases hlong : 200<s.size
  ·rw[if_pos hlong] at hE hE'
   obtain⟨rfl,rfl,rfl⟩:=hE
   obtain⟨rfl,rfl,rfl⟩:=hE'
   exact⟨rfl,rfl,rfl⟩
  ·rw[if_neg hlong] at hE hE'
   obtain⟨o,ho,rfl,rfl,rfl⟩:=hE
   obtain⟨o',ho',rfl,rfl,rfl⟩:=hE'
   have:=(ho hP.ends.pos).det _ (ho' hP.ends.pos)
   subst this
   exact⟨rfl,rfl,rfl⟩
end Go.Proofs.YtiganlkabilblaaGreatDoor
