import Derived.Test.YtiganlkabilblaaGreatDoorV00
import Derived.Test.YtiganlkabilblaaGreatDoorV01
import Derived.Test.YtiganlkabilblaaGreatDoorV02
import Derived.Test.YtiganlkabilblaaGreatDoorV03
import Derived.Test.YtiganlkabilblaaGreatDoorV04
import Derived.Test.YtiganlkabilblaaGreatDoorV05
import Derived.Test.YtiganlkabilblaaGreatDoorV06
import Derived.Test.YtiganlkabilblaaGreatDoorV07
import Derived.Test.YtiganlkabilblaaGreatDoorV08
import Derived.Test.YtiganlkabilblaaGreatDoorV09
import Derived.Test.YtiganlkabilblaaGreatDoorV10
import Derived.Test.YtiganlkabilblaaGreatDoorV11
import Derived.Test.YtiganlkabilblaaGreatDoorV12
import Derived.Test.YtiganlkabilblaaGreatDoorV13
import Derived.Test.YtiganlkabilblaaGreatDoorV14
import Derived.Test.YtiganlkabilblaaGreatDoorV15
import Derived.Test.YtiganlkabilblaaGreatDoorV16
import Derived.Test.YtiganlkabilblaaGreatDoorV17
import Derived.Test.YtiganlkabilblaaGreatDoorV29
import Derived.Test.YtiganlkabilblaaGreatDoorV35
import Derived.Test.YtiganlkabilblaaGreatDoorV36
import Derived.Test.YtiganlkabilblaaGreatDoorV37
import Derived.Test.YtiganlkabilblaaGreatDoorV38
import Derived.Test.YtiganlkabilblaaGreatDoorV40
import Derived.Test.YtiganlkabilblaaGreatDoorV44
import Derived.Test.YtiganlkabilblaaGreatDoorV45
import Derived.Test.YtiganlkabilblaaGreatDoorV46
import Derived.Test.YtiganlkabilblaaGreatDoorET00
import Derived.Test.YtiganlkabilblaaGreatDoorRows
import Derived.WalkKit
import Derived.ProofKit
import Derived.OpenShut
import Derived.ShutString
import Derived.ChangeMaps5
import Derived.ChangeOld
import Derived.Below
import Derived.ChangeSame
import Derived.ChangeVars
import Derived.JoinedOf
import Derived.RowKit
import Derived.RowKitTokens
import Derived.LaidLaws
import Derived.LaidHandle
import Derived.Stop.Joined
import Derived.Test.YtiganlkabilblaaGreatDoorTie
import Derived.Test.YtiganlkabilblaaGreatDoorCards
import Derived.SevenTiedAt
set_option linter.all false
set_option maxHeartbeats 64000000
set_option maxRecDepth 100000
open Go.Proofs.Tryz
open Go.Proofs.Tryz renaming prog->P
namespace Go.Proofs.YtiganlkabilblaaGreatDoor
open Tryz
open Option renaming some->S,none->N
open Value renaming int->I
open IntKind renaming i64->J
section
open Go.ChangeShapes Go.WideShapes Go.ChangeAt Go.RowKit
theorem zrb:ownKnob prog.godebug=N:=by kernel_rfl
theorem zr9:prog.globalNamed "errors.errorType" =S 0:=by kernel_rfl
theorem zrd:(prog.cutTypes.find? (·.1== "internal/reflectlite.rtype")).map (·.2)=S 259:=by kernel_rfl
theorem zre:prog.types.size=376:=by kernel_rfl
theorem zra:((List.range 376).filter λt=>prog.rowNamed t [101,114,114,111,114])=[78]:=by kernel_rfl
abbrev zqS:List (String×DataW Unit):=[("errors.errorType",Rows.laid_errors_errorType)]
theorem zqW{W:World}(h:laidMetH P zqS W):QD W:=by
 have i:laidMet P [] W/\handlesMet P zqS W:=h;obtain⟨name,u,k,c,d,e,f,a⟩:=i.2 _ (List.mem_singleton.2 rfl);have g:name=[101,114,114,111,114]:=(Option.some.inj c).symm;subst g;obtain rfl:=Option.some.inj (zrd.symm.trans d);have b:k∈(List.range 376).filter λt=>prog.rowNamed t [101,114,114,111,114]:=List.mem_filter.2 ⟨List.mem_range.2 (by rw[<-zre];exact e),f⟩;rw[zra]at b;obtain rfl:=List.mem_singleton.1 b;have j:typeHandle P 78=.pointer (S ⟨2,78,N⟩):=by kernel_rfl
 rw[j]at a;unfold QD;simpa using World.var?_cell zr9 a 0
theorem zr7(c:Os)(K:c.Started)(H:Type)(b:TypeId×Value->H):ReturnsInHanded {} checked c 5 .any (λw a=>(Rows.tellsSpec.pre b P f5 [] false w a/\laidMetH P zqS w)/\sizedMet b P f5 (OpenSpec.ofChange Rows.tellsSpec) false w a) (Rows.tellsSpec.post b P f5 false true false false):=by
 refine returnsInHanded_of_change_and (C:=checked) (X:=λw _=>laidMetH P zqS w) (λ_ _ _ F h=>h.of_heap F) zrb K (by kernel_rfl) func5 (ChangeSpec.witness_at (enc:=b) (C:=checked) (os:=c) (X:=λw _=>laidMetH P zqS w) false {World.holding P c ⟨#[],#[],[]⟩with heap:=(World.holding P c ⟨#[],#[],[]⟩).heap.modify 0 λ | .cells _ t y=>.cells #[.iface 259 (.agg #[.pointer (S ⟨2,78,N⟩)])] t y|o=>o} #[.string ⟨#[]⟩] 8 rfl (by kernel_rfl) (by kernel_rfl) (by kernel_rfl) (by kernel_rfl) (by kernel_rfl) (laidMetH_of_parts (laidMet_nil _ _) (by kernel_rfl))) ?_;intro W s a x d M G k _ _ A _;have l:∀(j:Nat) t v,f5.params[j]?=S t->a[j]?=S v->Value.okWide P W .any s t v:=G;have D:=k;obtain⟨p,q,hA0,B,rfl,T,U⟩:=k;have f:DataW.TrodAll b P W 0 (λ_=>true) true f5.params.toList a.toList x p:=hA0;have i:DataW.TrodVars b P W (λ_=>true) [] d q:=B;rw[params5]at f l;obtain⟨m,Z,O,Q,V,Y,R,rfl,rfl,z,I⟩:=trodAll_cons f;obtain⟨rfl,rfl,rfl⟩:=trodAll_nil I;obtain rfl:a=#[m]:=by cases a;simp_all
 obtain⟨rfl,rfl⟩:d=[]/\q=[]:=by
  cases d with
  |nil=>exact⟨rfl,i⟩|cons g r=>exact absurd i (by intro h;cases h)
 obtain⟨J,rfl,rfl,rfl,n⟩:=Go.ChangeMaps.open_string underlying9 (l 0 9 m rfl rfl) z;refine(zr5 J W n (zqW A)).mono λe L ⟨E,u⟩=> ?_;subst E;exact⟨_,rfl,_,_,_,[],_,[],D,trodAll_mk1 (shut_bool underlying4 _),trodAll_mk1 (Go.ChangeMaps.shut_string underlying9 n),rfl,u.frame _,λh=>by cases h⟩
theorem zr6:Rows.TellsSaid:=OpenClaim.holds_of_wide 5 f5 rfl rfl rfl rfl rfl rfl rfl ⟨rfl,rfl,rfl,rfl,rfl⟩ rfl rfl rfl rfl rfl (by kernel_rfl) func5 (by kernel_rfl) (of_decide_eq_true (by kernel_rfl)) (by unfold Func.isWrapper;first|(rw[if_pos (by decide+kernel)];kernel_rfl)|(rw[if_neg (by decide+kernel)];exact⟨rfl,rfl⟩)) (λb c H a _=>zr7 b c H a)
end
theorem zr8:Rows.tellsRow.laidByTextAt .later pinned [.handle] true:=OpenClaim.laidByTextAt_later rfl rfl tie (by kernel_rfl)
theorem tells_card:Rows.TellsCardSaid:=
 Claim7.holds_tied_plain_at .later [] [.handle] true (true,Rows.tellsCard.stood.harness.2) true
  zr6 (λ_ h=>by cases h) (by kernel_rfl) (λ_ h=>by cases h) zr8 rfl ⟨rfl,rfl⟩ (by kernel_rfl) rfl
  (λf fn hf hfn=>by
   obtain rfl:f=5:=Option.some.inj ((show prog.funcNamed Rows.tellsRow.func=some 5 by kernel_rfl).symm.trans hf) |>.symm
   obtain rfl:fn=f5:=(Option.some.inj (func5.symm.trans hfn)).symm
   exact⟨by kernel_rfl,λj t ht=>by
    rw[params5]at ht
    have h3:t=9:=by
     rcases j with _|j
     ·simpa using ht.symm
     ·simp at ht
    subst h3
    exact(show prog.wantsStandIn 9=false by kernel_rfl)⟩)
  (by kernel_rfl)
#print axioms tells_card
end Go.Proofs.YtiganlkabilblaaGreatDoor
