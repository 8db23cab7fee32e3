import Derived.Test.YtiganlkabilblaaGreatDoorVL37
import Derived.Test.YtiganlkabilblaaGreatDoorVL40
import Derived.Test.YtiganlkabilblaaGreatDoorRows
import Derived.WalkKit
import Derived.ProofKit
import Derived.OpenShut
import Derived.ShutString
import Derived.ChangeMaps5
import Derived.ChangeOld
import Derived.Below
import Derived.ChangeSame
import Derived.ChangeVars
import Derived.JoinedOf
import Derived.RowKit
import Derived.RowKitTokens
import Derived.LaidLaws
import Derived.LaidHandle
import Derived.Stop.Joined
import Derived.Test.YtiganlkabilblaaGreatDoorTie
import Derived.Test.YtiganlkabilblaaGreatDoorCards
import Derived.SevenTiedAt
set_option linter.all false
set_option maxHeartbeats 64000000
set_option maxRecDepth 100000
namespace Go.Proofs.YtiganlkabilblaaGreatDoor
open Go.RowKit Thk Go.Lib
attribute [local go_sem ↓] Go.wp_at_zero Go.wp_at_succ
theorem znM.below {w w':World} {a:Option Addr} {len:Nat} {R:Nat→Int} (h:znM w a len R) (hb:Below w.heap.size w w'):znM w' a len R:=fun k hk=>by
 obtain⟨x,c,e,h1,h2,h3,h4⟩:=h k hk
 exact⟨x,c,e,Nat.lt_of_lt_of_le h1 hb.size,by rw[hb.cell (p:=x.add k) h1];exact h2,h3,h4⟩
theorem zqh {w:World} {a:Option Addr} {len:Nat} (h:zjX w a len):∃ R,znM w a len R:=by
 classical
 refine⟨fun k=>if hk:k<len then Classical.choose (Classical.choose_spec (h k hk)) else 0,fun k hk=>?_⟩
 have:=Classical.choose_spec (Classical.choose_spec (h k hk))
 obtain⟨h1,h2,h3,h4⟩:=this
 exact⟨_,_,h1,h2,h3,h4,by simp[hk]⟩
theorem zpU (w:World) (a:Option Addr) (len cap:Nat) (style other:Int) (inp:ByteArray) (hr:zjX w a len) (hl:len≤maxLen) (hs:i64 style) (ho:i64 other) (hi:inp.size≤maxLen) (hE:QD w) :
  Calls Tryz.prog 11 #[.slice a len cap,.int .i64 style,.int .i64 other,.string inp] w fun e w'=>e = .returned (.bool true)∧Below w.heap.size w w':=by
 obtain⟨R,hF⟩:=zqh hr
 have HX:=z6 (zoM w a len cap style R hF hl hs)
 have HF:=z6 hF
 have HE:=z6 hE
 clear hr hE hF
 go_enter Tryz.func11,Tryz.ntmps11
 go_wp2_with fail
 refine (zks inp _ hi).mono ?_
 rintro _ w0 ⟨s,rfl,hs60,rfl⟩
 go_wp2_with fail
 refine HX.out.mono ?_
 rintro _ w1 ⟨⟨x,e1,d1⟩,rfl,⟨s1,r1,hst1,hgm1⟩,hd1,hlx,hb1⟩
 simp only[] at hd1 hlx
 have xs:=zjU x
 have hz1:=hb1.size
 have HX2:=z6 (zoM w1 a len cap other R (HF.out.below hb1) hl ho)
 have HS1:=z6 hst1
 have HG1:=z6 hgm1
 have HB1:=z6 hb1
 clear HX hst1 hgm1 hb1
 simp only[mdV]
 have hfd:=zl5
 go_wp2_with fail
 refine (zl6 _).mono ?_
 rintro _ w2 ⟨rfl,rfl⟩
 go_wp2_with fail
 refine HX2.out.mono ?_
 rintro _ w3 ⟨⟨x2,e2,d2⟩,rfl,⟨s2,r2,hst2,hgm2⟩,hd2,hlx2,hb3⟩
 simp only[] at hd2 hlx2
 have xs2:=zjU x2
 have hz3:=hb3.size
 obtain rfl:s1=s2:=by
  have h9:=HS1.out
  rw[hst2] at h9
  cases h9
  rfl
 obtain⟨c,ce,cd⟩:=s1
 obtain⟨g1,g2,g3,g4,g5,g6,g7,g8⟩:=HG1.out
 obtain⟨f1,f2,f3,_⟩:=hgm2
 simp only[] at g1 g2 g3 g4 g5 g6 g7 g8 f1 f2 f3
 have HB3:=z6 (HB1.out.trans (hb3.mono hz1))
 have hpl:(prG (gs c)).length≤1456∧7≤(prG (gs c)).length:=by
  rw[znP]
  simp
  omega
 have hdc:dpC c≤6:=by omega
 have hra:=zkr g3 (by omega)
 have hrp:=zq0 g6 g5 hdc
 have hrb:=zpR f3 (by omega)
 have hTa:((hdB++(x++zjP)):List UInt8).length≤2000:=by simp;omega
 have hTb:(otB x2).length≤2000:=by simp[zjN];omega
 have HPA:=z6 (fun (W:World) (hW:QD W)=>zon hra g4 hTa W hW)
 have HPB:=z6 (fun (W:World) (hW:QD W)=>zon hrb (zot g4) hTb W hW)
 have HPP:=z6 (fun (W:World) (hW:QD W)=>zon hrp (zo7 g4) (by omega) W hW _ rfl)
 have HMA:=z6 (fun (W:World) (hW:QD W)=>zoj hra g4 hTa s hs60 W hW)
 have HMB:=z6 (fun (W:World) (hW:QD W)=>zoj hrb (zot g4) hTb s hs60 W hW)
 have HMP:=z6 (fun (W:World) (hW:QD W)=>zoj hrp (zo7 g4) (by omega) s hs60 W hW _ rfl)
 have HTA:=z6 (fun (W:World) (hW:QD W)=>zpd hra g4 hTa s hs60 W hW)
 have HTP:=z6 (fun (W:World) (hW:QD W)=>zpd hrp (zo7 g4) (by omega) s hs60 W hW _ rfl)
 have HIN:=z6 g4.names
 have hag:=zpW c
 rw[hag] at HPP
 have HWR:=z6 (zq2 c)
 obtain⟨hpl1,hpl2⟩:=hpl
 generalize prG (gs c)=P at *
 generalize prG (gs (znC c))=Q at *
 have ps:=zjU P
 have qs:=zjU Q
 clear HX2 hst2 HS1 HG1 g1 g2 g3 g4 g5 g6 g7 g8 f1 f2 f3 hb3 hra hrp hrb hTa hTb hag hdc HF
 simp only[mdV]
 go_wp2_with fail
 refine (zl6 _).mono ?_
 rintro _ w4 ⟨rfl,rfl⟩
 go_wp2_with fail
 refine (HPA.out _ (HE.out.below HB3.out) _ (by rw[← zf,← zf];apply ByteArray.ext;simp[ByteArray.data_append])).mono ?_
 rintro _ w5 ⟨rfl,hb5⟩
 have HB5:=z6 (HB3.out.trans (hb5.mono HB3.out.size))
 clear HPA hb5 HB3
 go_wp2_with fail
 refine (HPB.out _ (HE.out.below HB5.out) _ (by apply ByteArray.ext;simp[ByteArray.data_append,brk])).mono ?_
 rintro _ w6 ⟨rfl,hb6⟩
 have HB6:=z6 (HB5.out.trans (hb6.mono HB5.out.size))
 clear HPB hb6 HB5
 go_wp2_with fail
 refine (HPP.out _ (HE.out.below HB6.out)).mono ?_
 rintro _ w7 ⟨rfl,hb7⟩
 have HB7:=z6 (HB6.out.trans (hb7.mono HB6.out.size))
 have hp7:¬ ((bs P).size:Int)<7:=by rw[ps];omega
 clear HPP hb7 HB6
 go_wp2_with fail
 refine (HMA.out _ (HE.out.below HB7.out) _ (by rw[← zf,← zf];apply ByteArray.ext;simp[ByteArray.data_append])).mono ?_
 rintro _ w8 ⟨hb8,oa,n,hoa,hn,rfl⟩
 have HB8:=z6 (HB7.out.trans (hb8.mono HB7.out.size))
 have HOA:=z6 hoa
 have HN:=z6 hn
 clear HMA hb8 HB7 hoa hn
 go_wp2_with fail
 refine (HMP.out _ (HE.out.below HB8.out)).mono ?_
 rintro _ w9 ⟨hb9,op,m,hop,hm,rfl⟩
 obtain rfl:oa=op:=(HOA.out.nf HIN.out).1.det _ hop
 obtain rfl:n=m:=HN.out.trans hm.symm
 have HB9:=z6 (HB8.out.trans (hb9.mono HB8.out.size))
 clear HMP hb9 HB8 hop hm
 go_wp2_with fail
 refine (HMB.out _ (HE.out.below HB9.out) _ (by apply ByteArray.ext;simp[ByteArray.data_append,brk])).mono ?_
 rintro _ w10 ⟨hb10,ob,m,hob,hm,rfl⟩
 obtain rfl:m=n:=zqt ⟨ob,hob,hm.symm⟩ ⟨oa,HOA.out,HN.out.symm⟩ HIN.out
 have HB10:=z6 (HB9.out.trans (hb10.mono HB9.out.size))
 clear HMB hb10 HB9 hob hm
 go_wp2_with fail
 refine (HTA.out _ (HE.out.below HB10.out) _ (by rw[← zf,← zf];apply ByteArray.ext;simp[ByteArray.data_append])).mono ?_
 rintro _ w11 ⟨hb11,oc,pa,ca,hoc,rfl,hna⟩
 obtain rfl:oa=oc:=HOA.out.det _ hoc
 have HB11:=z6 (HB10.out.trans (hb11.mono HB10.out.size))
 have HNA:=z6 hna
 clear HTA hb11 HB10 hoc hna
 go_wp2_with fail
 refine (HTP.out _ (HE.out.below HB11.out)).mono ?_
 rintro _ w12 ⟨hb12,oc,pb,cb,hoc,rfl,hnb⟩
 obtain rfl:oa=oc:=(HOA.out.nf HIN.out).1.det _ hoc
 have HB12:=z6 (HB11.out.trans (hb12.mono HB11.out.size))
 have HSM:=z6 (zl7 w12 _ _ _ _ (trL oa) (Zv HNA.out hb12) hnb)
 clear HTP hb12 HB11 hoc hnb HNA
 go_wp2_with fail
 refine HSM.out.mono ?_
 rintro _ w13 ⟨rfl,hb13⟩
 have HB13:=z6 (HB12.out.trans (hb13.mono HB12.out.size))
 clear HSM hb13 HB12
 rcases HWR.out with rfl | hq
 ·go_wp2_with fail
  go_ret
  exact⟨rfl,HB13.out⟩
 ·have hq1:((bs Q).size:Int)=(bs P).size+2:=by rw[ps,qs];omega
  have hq2:bs Q≠bs P:=fun h=>by rw[h] at hq1;omega
  go_wp2_with fail
  all_goals
   go_ret
   exact⟨rfl,HB13.out⟩
end Go.Proofs.YtiganlkabilblaaGreatDoor
namespace Go.Proofs.YtiganlkabilblaaGreatDoor
open Go.ChangeShapes Go.WideShapes Go.ChangeAt Go.RowKit
theorem zq6:ownKnob Tryz.prog.godebug=none:=by kernel_rfl
theorem zq4:laidOutB Tryz.prog=true:=by kernel_rfl
theorem zq3:Tryz.prog.globalNamed "errors.errorType" = some 0:=by kernel_rfl
theorem zq7:(Tryz.prog.cutTypes.find? (·.1 == "internal/reflectlite.rtype")).map (·.2)=some 259:=by kernel_rfl
theorem zq8:Tryz.prog.types.size=376:=by kernel_rfl
theorem zq5:((List.range 376).filter fun t=>Tryz.prog.rowNamed t [101,114,114,111,114])=[78]:=by kernel_rfl
abbrev znV:List (String × DataW Unit):=[("errors.errorType", Rows.laid_errors_errorType)]
theorem zkZ {W:World} (h:laidMetH Tryz.prog znV W):QD W:=by
 have h':laidMet Tryz.prog [] W∧handlesMet Tryz.prog znV W:=h
 obtain⟨name,u,ty,e1,e2,e3,e4,e5⟩:=h'.2 _ (List.mem_singleton.2 rfl)
 have en:name=[101,114,114,111,114]:=(Option.some.inj e1).symm
 subst en
 obtain rfl:=Option.some.inj (zq7.symm.trans e2)
 have hm:ty ∈ (List.range 376).filter fun t=>Tryz.prog.rowNamed t [101,114,114,111,114]:=List.mem_filter.2 ⟨List.mem_range.2 (by rw[← zq8];exact e3),e4⟩
 rw[zq5] at hm
 obtain rfl:=List.mem_singleton.1 hm
 have hh:typeHandle Tryz.prog 78 = .pointer (some ⟨2,78,none⟩):=by kernel_rfl
 rw[hh] at e5
 unfold QD
 simpa using World.var?_cell zq3 e5 0
theorem zqg {H:Type} {enc:TypeId × Value→H} {W:World} {a0:Option Addr} {len0 cap0:Nat} {d:DataW H} {p:List MemPlace} (h0:DataW.Trod enc Tryz.prog W 0 (fun _=>true) true 40 (.slice a0 len0 cap0) d p):zjX W a0 len0∧len0≤maxLen:=by
 obtain⟨fuel,hf⟩:=h0
 rcases open_ints Tryz.underlying40 Tryz.underlying3 (by kernel_rfl) hf with ⟨hcs,_⟩ | ⟨x,l,c,zs,hcs,_,hl,hm,hz,_,hcell,hwz⟩
 ·simp[Value.cells] at hcs
  obtain⟨rfl,rfl,rfl⟩:=hcs
  exact⟨fun k hk=>by omega,by decide⟩
 ·simp[Value.cells] at hcs
  obtain⟨rfl,rfl,rfl⟩:=hcs
  have hzl:zs.length=cap0:=by simpa using hz
  refine⟨fun k hk=>⟨x,zs.getD k 0,rfl,?_,hcell k (by omega),?_⟩,by omega⟩
  ·exact World.block_lt_of_cell? W _ (hcell k (by omega))
  ·have hw:=hwz (zs.getD k 0) (by rw[List.getD_eq_getElem?_getD,List.getElem?_eq_getElem (by omega)];exact List.getElem_mem _)
   have hw':IntKind.i64.min≤zs.getD k 0∧zs.getD k 0≤IntKind.i64.max:=by simpa [Lit.wf] using hw
   have e1:IntKind.i64.min = -9223372036854775808:=by decide
   have e2:IntKind.i64.max=9223372036854775807:=by decide
   constructor<;>omega
theorem zoP {n:Int} (hn:(Lit.int .i64 n).wf=true):i64 n:=by
 have hw':IntKind.i64.min≤n∧n≤IntKind.i64.max:=by simpa [Lit.wf] using hn
 have e1:IntKind.i64.min = -9223372036854775808:=by decide
 have e2:IntKind.i64.max=9223372036854775807:=by decide
 constructor<;>omega
theorem zpZ (os:Os) (started:os.Started) (H:Type) (enc:TypeId × Value→H) :
    ReturnsInHanded {} Tryz.checked os 11 .any (fun w args=>(Rows.plainSpec.pre enc Tryz.prog Tryz.f11 [] false w args∧laidMetH Tryz.prog znV w)∧sizedMet enc Tryz.prog Tryz.f11 (OpenSpec.ofChange Rows.plainSpec) false w args)
      (Rows.plainSpec.post enc Tryz.prog Tryz.f11 false true false false):=by
  refine returnsInHanded_of_change_and (C:=Tryz.checked) (X:=fun w _=>laidMetH Tryz.prog znV w) (fun _ _ _ hh h=>h.of_heap hh) zq6 started (by kernel_rfl) Tryz.func11
    (ChangeSpec.witness_at (enc:=enc) (C:=Tryz.checked) (os:=os) (X:=fun w _=>laidMetH Tryz.prog znV w) false
      { World.holding Tryz.prog os ⟨#[], #[], []⟩ with heap := (World.holding Tryz.prog os ⟨#[], #[], []⟩).heap.modify 0 fun
          | .cells _ t frozen=>.cells #[.iface 259 (.agg #[.pointer (some ⟨2,78,none⟩)])] t frozen
          | o=>o }
      #[.slice none 0 0,.int .i64 0,.int .i64 0,.string ⟨#[]⟩] 8 rfl (by kernel_rfl) (by kernel_rfl) (by kernel_rfl) (by kernel_rfl) (by kernel_rfl) (laidMetH_of_parts (laidMet_nil _ _) (by kernel_rfl))) ?_
  intro W base args ds gs before hval0 hW _ _ hL _
  have hval:∀ (j:Nat) t v,Tryz.f11.params[j]? = some t→args[j]? = some v→Value.okWide Tryz.prog W .any base t v:=hval0
  have hW':=hW
  obtain⟨p,q,hA0,hV0,rfl,hfz,hnd⟩:=hW
  have hA:DataW.TrodAll enc Tryz.prog W 0 (fun _=>true) true Tryz.f11.params.toList args.toList ds p:=hA0
  have hV:DataW.TrodVars enc Tryz.prog W (fun _=>true) [] gs q:=hV0
  rw[Tryz.params11] at hA hval
  obtain⟨v0,vs0,d0,ds0,p0,q0,hargs,rfl,rfl,h0,r0⟩:=trodAll_cons hA
  obtain⟨v1,vs1,d1,ds1,p1,q1,rfl,rfl,rfl,h1,r1⟩:=trodAll_cons r0
  obtain⟨v2,vs2,d2,ds2,p2,q2,rfl,rfl,rfl,h2,r2⟩:=trodAll_cons r1
  obtain⟨v3,vs3,d3,ds3,p3,q3,rfl,rfl,rfl,h3,r3⟩:=trodAll_cons r2
  obtain⟨rfl,rfl,rfl⟩:=trodAll_nil r3
  obtain rfl:args = #[v0,v1,v2,v3]:=by cases args;simp_all
  obtain⟨rfl,rfl⟩:gs=[]∧q=[]:=by
    cases gs with
    | nil=>exact⟨rfl,hV⟩
    | cons g r=>exact absurd hV (by intro h;cases h)
  obtain⟨a0,len0,cap0,rfl⟩:=okWide_slice Tryz.underlying40 (hval 0 40 v0 rfl rfl)
  have k0:=h0
  have lt0:∀ x ∈ p0,x.block<W.heap.size:=by obtain⟨m,hm⟩:=k0;exact DataW.trod_lt m _ _ _ hm
  obtain⟨hr0,hl0⟩:=zqg h0
  obtain⟨a1,rfl,rfl,rfl,w1⟩:=open_int Tryz.underlying3 (hval 1 3 v1 rfl rfl) h1
  obtain⟨a2,rfl,rfl,rfl,w2⟩:=open_int Tryz.underlying3 (hval 2 3 v2 rfl rfl) h2
  obtain⟨s3,rfl,rfl,rfl,w3⟩:=Go.ChangeMaps.open_string Tryz.underlying9 (hval 3 9 v3 rfl rfl) h3
  refine (zpU W a0 len0 cap0 a1 a2 s3 hr0 hl0 (zoP w1) (zoP w2) w3 (zkZ hL)).mono fun e W' ⟨he,bel⟩=>?_
  subst he
  exact⟨_,rfl,_,_,_,[],_,[],hW',trodAll_mk1 (shut_bool Tryz.underlying4 _),(trodAll_cons_mk (Below.trod zq4 (by kernel_rfl) (of_decide_eq_true (by kernel_rfl)) k0 bel lt0) (trodAll_cons_mk (shut_int Tryz.underlying3 w1) (trodAll_cons_mk (shut_int Tryz.underlying3 w2) (trodAll_cons_mk (Go.ChangeMaps.shut_string Tryz.underlying9 w3) trodAll_mk0)))),rfl,bel.frame _,fun h=>by cases h⟩
theorem zpY:Rows.PlainSaid:=
 OpenClaim.holds_of_wide 11 Tryz.f11 rfl rfl rfl rfl rfl rfl rfl ⟨rfl,rfl,rfl,rfl,rfl⟩ rfl rfl rfl rfl rfl (by kernel_rfl) Tryz.func11 (by kernel_rfl)
  (of_decide_eq_true (by kernel_rfl)) (by unfold Func.isWrapper;first | (rw[if_pos (by decide +kernel)];kernel_rfl) | (rw[if_neg (by decide +kernel)];exact⟨rfl,rfl⟩))
  (fun os started H enc _=>zpZ os started H enc)
end Go.Proofs.YtiganlkabilblaaGreatDoor
namespace Go.Proofs.YtiganlkabilblaaGreatDoor
open Go
theorem zq1:Rows.plainRow.laidByTextAt .later Tryz.pinned [.handle] true:=
 OpenClaim.laidByTextAt_later rfl rfl tie (by kernel_rfl)
theorem plain_card:Rows.PlainCardSaid:=
 Claim7.holds_tied_plain_at .later [] [.handle] true (true,Rows.plainCard.stood.harness.2) true
  zpY (fun _ h=>by cases h) (by kernel_rfl) (fun _ h=>by cases h) zq1 rfl ⟨rfl,rfl⟩ (by kernel_rfl) rfl
  (fun f fn hf hfn=>by
   obtain rfl:f=11:=Option.some.inj ((show Tryz.prog.funcNamed Rows.plainRow.func=some 11 by kernel_rfl).symm.trans hf) |>.symm
   obtain rfl:fn=Tryz.f11:=(Option.some.inj (Tryz.func11.symm.trans hfn)).symm
   exact⟨by kernel_rfl,fun j t ht=>by
    rw[Tryz.params11] at ht
    have h3:t=40∨t=3∨t=9:=by
     rcases j with _ | _ | _ | _ | j
     ·left;simpa using ht.symm
     ·right;left;simpa using ht.symm
     ·right;left;simpa using ht.symm
     ·right;right;simpa using ht.symm
     ·simp at ht
    rcases h3 with rfl | rfl | rfl
    ·exact (show Tryz.prog.wantsStandIn 40=false by kernel_rfl)
    ·exact (show Tryz.prog.wantsStandIn 3=false by kernel_rfl)
    ·exact (show Tryz.prog.wantsStandIn 9=false by kernel_rfl)⟩)
  (by kernel_rfl)
#print axioms plain_card
end Go.Proofs.YtiganlkabilblaaGreatDoor
