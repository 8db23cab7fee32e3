import Derived.Test.YtiganlkabilblaaGreatDoorRows
import Derived.Test.YtiganlkabilblaaGreatDoorV49
import Derived.WalkKit
import Derived.ProofKit
import Derived.OpenShut
import Derived.ShutString
import Derived.ChangeMaps5
import Derived.ChangeOld
import Derived.Below
import Derived.ChangeSame
import Derived.ChangeVars
import Derived.JoinedOf
import Derived.RowKit
import Derived.RowKitTokens
import Derived.LaidLaws
import Derived.LaidHandle
import Derived.Stop.Joined
import Derived.Test.YtiganlkabilblaaGreatDoorTie
import Derived.Test.YtiganlkabilblaaGreatDoorCards
import Derived.SevenTiedAt
set_option linter.all false
set_option maxHeartbeats 64000000
set_option maxRecDepth 100000
open Go.Proofs.Tryz
open Go.Proofs.Tryz renaming prog->P
namespace Go.Proofs.YtiganlkabilblaaGreatDoor
open Tryz
open Option renaming some->S,none->N
open Value renaming int->I
open IntKind renaming i64->J
section
open Go.ChangeShapes Go.WideShapes Go.ChangeAt Go.RowKit
theorem zhM:ownKnob prog.godebug=N:=by kernel_rfl
theorem zhK:laidOutB P=true:=by kernel_rfl
theorem zhJ:prog.globalNamed "errors.errorType" =S 0:=by kernel_rfl
theorem zhN:(prog.cutTypes.find? (·.1== "internal/reflectlite.rtype")).map (·.2)=S 259:=by kernel_rfl
theorem zhO:prog.types.size=376:=by kernel_rfl
theorem zhL:((List.range 376).filter λt=>prog.rowNamed t [101,114,114,111,114])=[78]:=by kernel_rfl
abbrev VM:List (String×DataW Unit):=[("errors.errorType",Rows.laid_errors_errorType)]
theorem zeM{W:World}(h:laidMetH P VM W):QD W:=by
 have i:laidMet P [] W/\handlesMet P VM W:=h;obtain⟨name,u,k,c,d,e,f,a⟩:=i.2 _ (List.mem_singleton.2 rfl);have g:name=[101,114,114,111,114]:=(Option.some.inj c).symm;subst g;obtain rfl:=Option.some.inj (zhN.symm.trans d);have b:k∈(List.range 376).filter λt=>prog.rowNamed t [101,114,114,111,114]:=List.mem_filter.2 ⟨List.mem_range.2 (by rw[<-zhO];exact e),f⟩;rw[zhL]at b;obtain rfl:=List.mem_singleton.1 b;have j:typeHandle P 78=.pointer (S ⟨2,78,N⟩):=by kernel_rfl
 rw[j]at a;unfold QD;simpa using World.var?_cell zhJ a 0
theorem ztB(os:Os)(started:os.Started)(H:Type)(enc:TypeId×Value->H):ReturnsInHanded {} checked os 9 .any (λw args=>(Rows.allSpec.pre enc prog f9 [] false w args/\laidMetH prog VM w)/\sizedMet enc prog f9 (OpenSpec.ofChange Rows.allSpec) false w args) (Rows.allSpec.post enc prog f9 false true false false):=by
 refine returnsInHanded_of_change_and (C:=checked) (X:=λw _=>laidMetH prog VM w) (λ_ _ _ hh h=>h.of_heap hh) zhM started (by kernel_rfl) func9 (ChangeSpec.witness_at (enc:=enc) (C:=checked) (os:=os) (X:=λw _=>laidMetH prog VM w) false {World.holding prog os ⟨#[],#[],[]⟩with heap:=(World.holding prog os ⟨#[],#[],[]⟩).heap.modify 0 λ | .cells _ t frozen=>.cells #[.iface 259 (.agg #[.pointer (some ⟨2,78,none⟩)])] t frozen|o=>o} #[.slice none 0 0] 8 rfl (by kernel_rfl) (by kernel_rfl) (by kernel_rfl) (by kernel_rfl) (by kernel_rfl) (laidMetH_of_parts (laidMet_nil _ _) (by kernel_rfl))) ?_;intro W base args ds gs before hval0 hW _ hwt hL _;have hval:∀(j:Nat) t v,f9.params[j]?=some t->args[j]?=some v->Value.okWide prog W .any base t v:=hval0;have hW':=hW;obtain⟨p,q,hA0,hV0,rfl,hfz,hnd⟩:=hW;have hA:DataW.TrodAll enc prog W 0 (λ_=>true) true f9.params.toList args.toList ds p:=hA0;have hV:DataW.TrodVars enc prog W (λ_=>true) [] gs q:=hV0;rw[params9]at hA hval hwt;obtain⟨v0,vs0,d0,ds0,p0,q0,hargs,rfl,rfl,h0,r0⟩:=trodAll_cons hA;obtain⟨rfl,rfl,rfl⟩:=trodAll_nil r0;obtain rfl:args=#[v0]:=by cases args;simp_all
 obtain⟨rfl,rfl⟩:gs=[]/\q=[]:=by
  cases gs with
  |nil=>exact⟨rfl,hV⟩|cons g r=>exact absurd hV (by intro h;cases h)
 obtain⟨a0,len0,cap0,rfl⟩:=okWide_slice underlying38 (hval 0 38 v0 rfl rfl);have k0:=h0;have lt0:∀x∈p0,x.block<W.heap.size:=by obtain⟨m,hm⟩:=k0;exact DataW.trod_lt m _ _ _ hm
 have hscr:Vb W a0 len0/\len0<=2932031007402:=by obtain⟨fuel,hf⟩:=h0;exact zh1 hf hwt
 refine(ztz W a0 len0 cap0 hscr.1 hscr.2 (zeM hL)).mono λe W' ⟨he,bel⟩=> ?_;subst he;exact⟨_,rfl,_,_,_,[],_,[],hW',trodAll_mk1 (shut_bool underlying4 _),(trodAll_cons_mk (Below.trod zhK (by kernel_rfl) (of_decide_eq_true (by kernel_rfl)) k0 bel lt0) trodAll_mk0),rfl,bel.frame _,λh=>by cases h⟩
theorem ztA:Rows.AllSaid:=OpenClaim.holds_of_wide 9 f9 rfl rfl rfl rfl rfl rfl rfl ⟨rfl,rfl,rfl,rfl,rfl⟩ rfl rfl rfl rfl rfl (by kernel_rfl) func9 (by kernel_rfl) (of_decide_eq_true (by kernel_rfl)) (by unfold Func.isWrapper;first|(rw[if_pos (by decide+kernel)];kernel_rfl)|(rw[if_neg (by decide+kernel)];exact⟨rfl,rfl⟩)) (λb c H a _=>ztB b c H a)
end
theorem ztC:Rows.allRow.laidByTextAt .later pinned [.handle] true:=OpenClaim.laidByTextAt_later rfl rfl tie (by kernel_rfl)
theorem all_card:Rows.AllCardSaid:=
 Claim7.holds_tied_plain_at .later [] [.handle] true (true,Rows.allCard.stood.harness.2) true
  ztA (λ_ h=>by cases h) (by kernel_rfl) (λ_ h=>by cases h) ztC rfl ⟨rfl,rfl⟩ (by kernel_rfl) rfl
  (λf fn hf hfn=>by
   obtain rfl:f=9:=Option.some.inj ((show prog.funcNamed Rows.allRow.func=some 9 by kernel_rfl).symm.trans hf) |>.symm
   obtain rfl:fn=f9:=(Option.some.inj (func9.symm.trans hfn)).symm
   exact⟨by kernel_rfl,λj t ht=>by
    rw[params9]at ht
    have h3:t=38:=by
     rcases j with _|j
     ·simpa using ht.symm
     ·simp at ht
    subst h3
    exact(show prog.wantsStandIn 38=false by kernel_rfl)⟩)
  (by kernel_rfl)
#print axioms all_card
end Go.Proofs.YtiganlkabilblaaGreatDoor
