import Derived.Test.YtiganlkabilblaaGreatDoorV33
import Derived.Deep.RegionHeld
import Derived.Test.YtiganlkabilblaaGreatDoorV28
import Derived.Test.YtiganlkabilblaaGreatDoorV37
import Derived.Test.YtiganlkabilblaaGreatDoorV29
import Derived.Test.YtiganlkabilblaaGreatDoorV09
set_option linter.all false
set_option maxHeartbeats 64000000
set_option maxRecDepth 100000
namespace Go.Proofs.YtiganlkabilblaaGreatDoor
open Go.RowKit
attribute [local go_sem ↓] Go.wp_at_zero Go.wp_at_succ
theorem PAll.errNe {l:List UInt8} {er p:Nat} (h:PAll l (.error (er,p))):er≠0:=by
 cases h with
 | text h=>exact read_err0 h
 | rules _ h=>cases h<;>simp
end Go.Proofs.YtiganlkabilblaaGreatDoor
namespace Go.Proofs.YtiganlkabilblaaGreatDoor
open Go.RowKit Thk
attribute [local go_sem ↓] Go.wp_at_zero Go.wp_at_succ
theorem Mted.same {w w':World} {mb:Nat} {N:List Nd} {bx:List (Nat × Nat × Nat)} {rs:List Nat} {vr:Value} {S:Nat→Prop} (h:Mted w mb N bx rs vr S) (hs:w.heap.size≤w'.heap.size) (hg:∀ b,S b→w'.heap[b]? = w.heap[b]?):Mted w' mb N bx rs vr S:=
 ⟨h.nm,fun b hb=>Nat.lt_of_lt_of_le (h.lt b hb) hs,Nat.lt_of_lt_of_le h.mlt hs,fun w2 h2 h3 h4=>h.mde w2 (Nat.le_trans hs h2) (fun b hb=>(h3 b hb).trans (hg b hb)) h4⟩
theorem Mted.below {w w':World} {mb:Nat} {N:List Nd} {bx:List (Nat × Nat × Nat)} {rs:List Nat} {vr:Value} {S:Nat→Prop} (h:Mted w mb N bx rs vr S) (hb:Below w.heap.size w w'):Mted w' mb N bx rs vr S:=
 h.same hb.size (fun b hS=>hb.block b (h.lt b hS))
theorem mtake_any {w:World} {mb:Nat} {N:List Nd} {bx:List (Nat × Nat × Nat)} {rs:List Nat} {vr:Value} {S:Nat→Prop} {g:List Rule} {s s0:ByteArray} {tv:Value} (h:Mted w mb N bx rs vr S) (hb:w.heap[mb]? = some (matO vr s0 tv .nilIface)) (hR:DnR N rs g) (hg : 0<g.length) (hgl:g.length≤20) (hs:s.size≤1000000) (o:Out) (ho:Ev g s.data.toList (.C g[0].choice) 0 o) :
  Calls Tryz.prog 60 #[ptrV mb,.string s] w fun e w'=>e = .returned (.tuple #[useV 0 0 o,.bool o.isSome])∧w'.heap[mb]? = some (matO vr ⟨#[]⟩ (.map none) .nilIface)∧Mted w' mb N bx rs vr S∧KpM [mb] w.heap.size w w':=by
 have hl:=hR.1
 have hr0 : 0<rs.length:=by omega
 have hd:=hR.2 0 hg hr0
 obtain⟨f,hf⟩:=(Ev.pgroup ho).simN hR rs[0] hd
 have M:=h.mde w (Nat.le_refl _) (fun _ _=>rfl) ⟨_,_,_,hb⟩
 refine (take_any M (by omega) hs w ⟨Nat.le_refl _,fun _ _ _=>rfl,za7 hb,hb⟩ f rs[0] o (List.getElem?_eq_getElem hr0) hf).mono ?_
 rintro e w' ⟨h1,h2,h3⟩
 refine⟨h1,h2.blk,h.same h3.size (fun b hS=>?_),h3⟩
 exact h3.block b (h.lt b hS) (by simp only[List.mem_singleton];rintro rfl;exact h.nm hS)
structure MdOf (B:Nat) (g:List Rule) (w0 w':World) (mb:Nat) (N:List Nd) (bx:List (Nat × Nat × Nat)) (rs:List Nat) (vr:Value) (S:Nat→Prop):Prop where
 ted:Mted w' mb N bx rs vr S
 blk:w'.heap[mb]? = some (matO vr ⟨#[]⟩ (.map none) .nilIface)
 dn:DnR N rs g
 mge:B≤mb
 gr:∀ b,S b→B≤b∨SpanB w0 b
def MadeOf (t:List UInt8) (w:World) (e:Ending) (w':World):Prop:=
 Below w.heap.size w w'∧∃ res,PAll t res∧match res with
  | .error (er,_)=>e = .returned (.tuple #[.pointer none,.int .i64 er])
  | .ok (g,_)=>g.length≤20∧∃ mb N bx rs vr S,e = .returned (.tuple #[ptrV mb,.int .i64 0])∧MdOf w.heap.size g w w' mb N bx rs vr S
theorem made_any (s:ByteArray) (w:World) (hs:s.size≤maxLen) (hg:ErrLaid w) :
  Calls Tryz.prog 58 #[.string s] w fun e w'=>MadeOf s.data.toList w e w':=by
 have hrd:=readAll_any s w hs
 have HG:Hid (ErrLaid w):=hg
 clear hg
 go_enter Tryz.func58,Tryz.ntmps58
 go_wp2_with fail
 refine hrd.mono ?_
 rintro e w1 ⟨res,hP,hb,hE⟩
 have HB:Hid (Below w.heap.size w w1):=hb
 have hs1:=hb.size
 have HP:Hid (PAll s.data.toList res):=hP
 clear hrd hP hb
 cases res with
 | error x=>
  obtain⟨er,p⟩:=x
  have htd:=fun O=>told_fault er p (w1.alloc O) (HG.out.below (HB.out.alloc hs1 O))
  have h0:=HP.out.errNe
  have h1:¬ (er:Int)=0:=by omega
  simp only[zal] at hE htd
  subst hE
  go_wp2_with fail
  refine (htd _).mono ?_
  rintro e w2 ⟨rfl,hb2⟩
  have HB2:Hid (Below w.heap.size w w2):=(HB.out.alloc hs1 _).trans (hb2.mono (by simp;omega))
  clear htd hb2
  go_wp2_with fail
  go_ret2
  exact⟨HB2.out,.error (er,p),HP.out,rfl⟩
 | ok y=>
  obtain⟨g,E⟩:=y
  obtain⟨hg0,hgl,a,cp,nb,eb,rfl,hGr,hFa⟩:=hE
  have htd:=fun O=>told_nil (w1.alloc O)
  have hmk:=fun (W:World) (hb:Below w1.heap.size w1 W)=>make_any W (w.heap.size≤·) g a cp nb (hGr.kept (zau hb)) (hFa.map.below hb) HP.out.gok (fun r hr=>(HP.out.ok' r hr).1) hgl
  have HMK:=hideP hmk
  clear hg0 hGr hFa hmk
  simp only[zag]
  go_wp2_with fail
  refine (htd _).mono ?_
  rintro e w2 ⟨rfl,hb2⟩
  have hz2':=hb2.size
  simp at hz2'
  have f0:w2.cell? ⟨w1.heap.size,0,none⟩=some (.map (some nb)):=by rw[hb2.cell (p:=⟨w1.heap.size,0,none⟩) (by simp)];exact za0 (za4 w1 _) 0
  have HB12:Hid (Below w1.heap.size w1 w2):=(za1 _ _).trans (hb2.mono (by simp))
  have HB2:Hid (Below w.heap.size w w2):=HB.out.trans (HB12.out.mono hs1)
  clear htd hb2
  go_wp2_with fail
  refine (HMK.out w2 HB12.out).mono ?_
  rintro _ w3 ⟨mb,N,bx,rs,vr,S,rfl,h1,h2,h3,h4,h5,h6⟩
  have HZ:Hid (MadeOf s.data.toList w (.returned (.tuple #[ptrV mb,.int .i64 0])) w3):=hideP ⟨HB2.out.trans (h4.mono HB2.out.size),.ok (g,E),HP.out,hgl,mb,N,bx,rs,vr,S,rfl,h1,h2,h3,Nat.le_trans HB2.out.size h5,fun b hb=>by
   rcases h6 b hb with h' | ⟨cu,h'⟩
   ·exact .inl (Nat.le_trans HB2.out.size h')
   ·rcases Nat.lt_or_ge b w.heap.size with hl | hl
    ·exact .inr ⟨cu,by rw[← HB2.out.block b hl];exact h'⟩
    ·exact .inl hl⟩
  clear h1 h2 h3 h4 h5 h6
  go_wp2_with fail
  go_ret2
  exact HZ.out
theorem useV_form (o:Out):∃ (c:Int) (nv:Value),useV 0 0 o = .agg #[.int .i64 0,.int .i64 0,.int .i64 c,nv]∧(nv = .nilIface∨∃ t v,nv = .iface t v):=by
 cases o with
 | none=>exact⟨0,.nilIface,rfl,.inl rfl⟩
 | some x=>exact⟨x.1,ntV x.2,rfl,zb3 x.2⟩
def TakeOf (t:List UInt8) (s:ByteArray) (w:World) (e:Ending) (w':World):Prop:=
 Below w.heap.size w w'∧∃ res,PAll t res∧match res with
  | .error (er,_)=>er≠0∧e = .returned (.tuple #[useV 0 0 none,.bool false,.int .i64 er])
  | .ok (g,_)=>g.length≤20∧if 200<s.size then e = .returned (.tuple #[useV 0 0 none,.bool false,.int .i64 1]) else ∃ o,(∀ h : 0<g.length,Ev g s.data.toList (.C g[0].choice) 0 o)∧e = .returned (.tuple #[useV 0 0 o,.bool o.isSome,.int .i64 0])
theorem zeu {fn:Func} {p u u2:Tmp} {ty:TypeId} (h:fn.results = #[.cell p ty,.tmp u,.tmp u2]) (tmps:Array Value) (P:Program) (w:World) :
  (results fn tmps).run P w =
   ((asAddr (tmps.getD p undef)).run P w).andThen fun a w₁ => ((loadVar ty a).run P w₁).andThen fun v w₂ => .ok (.tuple #[v,tmps.getD u undef,tmps.getD u2 undef]) w₂ := by
 simp only[results,h]
 simp[Sem.run_bind,Result.andThen]
theorem zbw {P:Program} {fn:Func} {p u u2:Tmp} {ty:TypeId} (h:fn.results = #[.cell p ty,.tmp u,.tmp u2]) (tmps:Array Value) (w:World) (g:Nat) (t:TypeId) (cs:Array Value) (fr:Nat × Nat) (d:TypeDesc)
  (hp:tmps.getD p undef = .pointer (some ⟨g,0,none⟩)) (hg:w.heap[g]? = some (.cells cs t fr))
  (hu:P.underlying ty=some d) (hd:(match d with | .struct _ | .array _ _=>true | _=>false)=true) (hi:(P.info? ty).map (·.size)=some cs.size) :
  (results fn tmps).run P w = .ok (.tuple #[.agg cs,tmps.getD u undef,tmps.getD u2 undef]) w:=by
 rw[zeu h,hp]
 simp[asAddr,run_loadVar_row w g t ty cs fr d hg hu hd hi,Result.andThen]
theorem ptake_any (t s:ByteArray) (w:World) (hs:t.size≤maxLen) (hs2:s.size≤maxLen) (hg:ErrLaid w) :
  Calls Tryz.prog 55 #[.string t,.string s] w fun e w'=>TakeOf t.data.toList s w e w':=by
 unfold maxLen at hs2
 have hmd:=made_any t (w.alloc useC) hs (hg.below (za1 w useC))
 go_enter Tryz.func55,Tryz.ntmps55
 go_wp2_with fail
 refine hmd.mono ?_
 rintro e w1 ⟨hb,res,hP,hE⟩
 have hz:=hb.size
 simp at hz
 have hu1:w1.heap[w.heap.size]? = some useC:=by rw[hb.block _ (by simp)];exact za4 _ _
 have z0:=za0 hu1
 have f0:=za2 hu1
 have l0:=za3 hu1
 have HU1:=hideP hu1
 have HB:Hid (Below w.heap.size w w1):=(za1 w useC).trans (hb.mono (by simp))
 have HP:=hideP hP
 clear hmd hb hP hu1
 cases res with
 | error x=>
  obtain⟨er,p⟩:=x
  simp only[] at hE
  subst hE
  have h0:=HP.out.errNe
  have h1:¬ (er:Int)=0:=by omega
  go_wp2_with fail
  refine bodyPost_ret (zbw rfl _ _ w.heap.size _ _ _ _ rfl (by rw[za6 (za6 (za6 (za6 HU1.out _) _) _) _]) Tryz.underlying108 rfl (by kernel_rfl)) rfl ?_
  exact⟨(((HB.out.setCell (p:=⟨w.heap.size,0,none⟩) (Nat.le_refl _) _).setCell (p:=⟨w.heap.size,1,none⟩) (Nat.le_refl _) _).setCell (p:=⟨w.heap.size,2,none⟩) (Nat.le_refl _) _).setCell (p:=⟨w.heap.size,3,none⟩) (Nat.le_refl _) _,.error (er,p),HP.out,h0,rfl⟩
 | ok y=>
  obtain⟨g,E⟩:=y
  obtain⟨hgl,mb,N,bx,rs,vr,S,rfl,hM⟩:=hE
  by_cases hlong : 200<s.size
  ·have hlong':(200:Int)<s.size:=by omega
   clear hM
   go_wp2_with fail
   refine bodyPost_ret (zbw rfl _ _ w.heap.size _ _ _ _ rfl (by rw[za6 (za6 (za6 (za6 HU1.out _) _) _) _]) Tryz.underlying108 rfl (by kernel_rfl)) rfl ?_
   refine⟨(((HB.out.setCell (p:=⟨w.heap.size,0,none⟩) (Nat.le_refl _) _).setCell (p:=⟨w.heap.size,1,none⟩) (Nat.le_refl _) _).setCell (p:=⟨w.heap.size,2,none⟩) (Nat.le_refl _) _).setCell (p:=⟨w.heap.size,3,none⟩) (Nat.le_refl _) _,.ok (g,E),HP.out,hgl,?_⟩
   rw[if_pos hlong]
   rfl
  ·have hlong':¬ (200:Int)<s.size:=by omega
   have hgp:=HP.out.ends.pos
   obtain⟨o,ho⟩:=zer (inp:=s.data.toList) HP.out.ends
   have HTK:=hideP (mtake_any hM.ted hM.blk hM.dn hgp hgl (by omega) o ho)
   have hmne:w.heap.size≠mb:=by have:=hM.mge;simp at this;omega
   have hmge:w.heap.size≤mb:=by have:=hM.mge;simp at this;omega
   have HO:=hideP ho
   clear hM ho
   go_wp2_with fail
   refine HTK.out.mono ?_
   rintro _ w2 ⟨rfl,h2,h3,h4⟩
   have hz4:=h4.size
   have hu2:w2.heap[w.heap.size]? = some useC:=by rw[h4.block _ l0 (by simpa using hmne)];exact HU1.out
   have HB2:Hid (Below w.heap.size w w2):=hideP (HB.out.trans (h4.belowOf (by simpa using hmge) (by omega)))
   have z2:=za0 hu2
   have f2:=za2 hu2
   have l2:=za3 hu2
   have HU2:=hideP hu2
   have HZ:Hid (∀ w',Below w.heap.size w w'→TakeOf t.data.toList s w (.returned (.tuple #[useV 0 0 o,.bool o.isSome,.int .i64 0])) w'):=hideP (fun w' hb=>by
    refine⟨hb,.ok (g,E),HP.out,hgl,?_⟩
    rw[if_neg hlong]
    exact⟨o,fun _=>HO.out,rfl⟩)
   obtain⟨c,nv,huv,hnv⟩:=useV_form o
   have HUV:=hideP huv
   have hfin:∀ (X:World) (v:Value),X=((((w2.setCell ⟨w.heap.size,0,none⟩ (.int .i64 0)).setCell ⟨w.heap.size,1,none⟩ (.int .i64 0)).setCell ⟨w.heap.size,2,none⟩ (.int .i64 c)).setCell ⟨w.heap.size,3,none⟩ v)→Below w.heap.size w X∧X.heap[w.heap.size]? = some (.cells #[.int .i64 0,.int .i64 0,.int .i64 c,v] 108 (0,0)):=by
    rintro X v rfl
    refine⟨(((HB2.out.setCell (p:=⟨w.heap.size,0,none⟩) (Nat.le_refl _) _).setCell (p:=⟨w.heap.size,1,none⟩) (Nat.le_refl _) _).setCell (p:=⟨w.heap.size,2,none⟩) (Nat.le_refl _) _).setCell (p:=⟨w.heap.size,3,none⟩) (Nat.le_refl _) _,?_⟩
    rw[za6 (za6 (za6 (za6 HU2.out _) _) _) _];rfl
   have HFIN:=hideP hfin
   clear hfin z0 f0 l0 HU1 h2 h3 h4 hu2 HTK
   rw[huv] at HZ ⊢
   clear huv
   generalize o.isSome=ob at *
   rcases hnv with rfl | ⟨nt,nx,rfl⟩
   ·go_wp2_with fail
    have hX:=HFIN.out _ .nilIface rfl
    refine bodyPost_ret (zbw rfl _ _ w.heap.size _ _ _ _ rfl (by rw[za5 _ _ (za7 hX.2)];exact hX.2) Tryz.underlying108 rfl (by kernel_rfl)) rfl ?_
    exact HZ.out _ (hX.1.alloc hX.1.size _)
   ·go_wp2_with fail
    have hX:=HFIN.out _ (.iface nt nx) rfl
    refine bodyPost_ret (zbw rfl _ _ w.heap.size _ _ _ _ rfl (by rw[za5 _ _ (za7 hX.2)];exact hX.2) Tryz.underlying108 rfl (by kernel_rfl)) rfl ?_
    exact HZ.out _ (hX.1.alloc hX.1.size _)
theorem PAll.pread {l:List UInt8} {res:Except (Nat × Nat) (List Rule × List Bool)} (hP:PAll l res):∃ r,PRead l r:=by
 cases hP with
 | text h=>exact⟨_,h⟩
 | rules h _=>exact⟨_,h⟩
 | ok h _=>exact⟨_,h⟩
abbrev gram0:ByteArray:=⟨#[97,32,60,45,32,39,120,39,32,97,32,47,32,39,121,39]⟩
abbrev inp0:ByteArray:=⟨#[120,120,121,122]⟩
end Go.Proofs.YtiganlkabilblaaGreatDoor
