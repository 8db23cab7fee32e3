import Derived.Test.YtiganlkabilblaaGreatDoorVS13
import Derived.Test.YtiganlkabilblaaGreatDoorVS18
import Derived.Deep.RegionHeldLaw
import Derived.Deep.AppendLies
import Derived.Test.YtiganlkabilblaaGreatDoorVS21
import Derived.Test.YtiganlkabilblaaGreatDoorVS14
import Derived.Test.YtiganlkabilblaaGreatDoorVS03
import Derived.Shelf.Strings.OnBuilder
import Derived.BigQuiet
import Derived.Test.YtiganlkabilblaaGreatDoorVS04
import Derived.Shelf.Strings.BuilderK
import Derived.Deep.RegionHeld
import Derived.Test.YtiganlkabilblaaGreatDoorVS22
import Derived.Laws.AppendOwnNone
import Derived.Deep.Upon
import Derived.Test.YtiganlkabilblaaGreatDoorVS12
import Derived.Test.YtiganlkabilblaaGreatDoorVS10
import Derived.Test.YtiganlkabilblaaGreatDoorVS11
import Derived.Deep.RegionLaw
import Derived.Deep.DrawnRows
import Derived.Test.YtiganlkabilblaaGreatDoorVS09
import Derived.Deep.CutRange
set_option linter.all false
set_option maxHeartbeats 64000000
set_option maxRecDepth 100000
namespace Go.Proofs.YtiganlkabilblaaGreatDoor
open Thk
theorem Ev.det {g:List ze} {inp:z7} {x:Ex} {k:Nat} {r:Out} (h:Ev g inp x k r):∀ r2,Ev g inp x k r2→r=r2:=by
 induction h with
 | cnil=>intro r2 h2;cases h2;rfl
 | chit _ ih=>
  intro r2 h2
  cases h2 with
  | chit a=>exact ih _ a
  | cmiss a _=>exact absurd (ih _ a) (by simp)
 | cmiss _ _ ih1 ih2=>
  intro r2 h2
  cases h2 with
  | chit a=>exact absurd (ih1 _ a) (by simp)
  | cmiss _ b=>exact ih2 _ b
 | snil=>intro r2 h2;cases h2;rfl
 | sfail _ ih=>
  intro r2 h2
  cases h2 with
  | sfail _=>rfl
  | sstep a _=>exact absurd (ih _ a) (by simp)
 | sstep _ _ ih1 ih2=>
  intro r2 h2
  cases h2 with
  | sfail a=>exact absurd (ih1 _ a) (by simp)
  | sstep a b=>
   have e:=ih1 _ a
   simp only[Option.some.injEq,Prod.mk.injEq] at e
   obtain⟨rfl,rfl⟩:=e
   exact ih2 _ b
 | tplain _ ih=>intro r2 h2;cases h2 with | tplain a=>exact ih _ a
 | tand _ ih=>intro r2 h2;cases h2 with | tand a=>rw[ih _ a]
 | tnot _ ih=>intro r2 h2;cases h2 with | tnot a=>rw[ih _ a]
 | iplain _ ih=>intro r2 h2;cases h2 with | iplain a=>exact ih _ a
 | imaybe _ ih=>intro r2 h2;cases h2 with | imaybe a=>rw[ih _ a]
 | istar _ ih=>intro r2 h2;cases h2 with | istar a=>rw[ih _ a]
 | iplus _ ih=>intro r2 h2;cases h2 with | iplus a=>exact ih _ a
 | qno _ ih=>
  intro r2 h2
  cases h2 with
  | qno _=>rfl
  | qlast a _=>exact absurd (ih _ a) (by simp)
  | qmore a _=>exact absurd (ih _ a) (by simp)
 | qlast _ _ ih1 ih2=>
  intro r2 h2
  cases h2 with
  | qno a=>exact absurd (ih1 _ a) (by simp)
  | qlast a _=>exact ih1 _ a
  | qmore a b=>
   have e:=ih1 _ a
   simp only[Option.some.injEq,Prod.mk.injEq] at e
   obtain⟨rfl,rfl⟩:=e
   exact absurd (ih2 _ b) (by simp)
 | qmore _ _ ih1 ih2=>
  intro r2 h2
  cases h2 with
  | qno a=>exact absurd (ih1 _ a) (by simp)
  | qlast a b=>
   have e:=ih1 _ a
   simp only[Option.some.injEq,Prod.mk.injEq] at e
   obtain⟨rfl,rfl⟩:=e
   exact absurd (ih2 _ b) (by simp)
  | qmore a b=>
   have e:=ih1 _ a
   simp only[Option.some.injEq,Prod.mk.injEq] at e
   obtain⟨rfl,rfl⟩:=e
   have e2:=ih2 _ b
   simp only[Option.some.injEq,Prod.mk.injEq] at e2
   obtain⟨rfl,rfl⟩:=e2
   rfl
 | pname _ _ _ ih=>intro r2 h2;cases h2 with | pname _ _ a=>rw[ih _ a]
 | plit _=>intro r2 h2;cases h2;rfl
 | pcls _=>intro r2 h2;cases h2;rfl
 | pany=>intro r2 h2;cases h2;rfl
 | pgroup _ ih=>intro r2 h2;cases h2 with | pgroup a=>exact ih _ a
end Go.Proofs.YtiganlkabilblaaGreatDoor
namespace Go.Proofs.YtiganlkabilblaaGreatDoor
open Go.RowKit Thk
attribute [local go_sem ↓] Go.wp_at_zero Go.wp_at_succ
def wfN:Nt→Prop
 | .nil=>True
 | .use _ _ _ m=>wfN m
 | .pair a b=>a≠.nil∧b≠.nil∧wfN a∧wfN b
theorem zdk {a b:Nt} (ha:wfN a) (hb:wfN b):wfN (jn a b):=by
 cases a<;>cases b<;>first | exact hb | exact ha | exact⟨by simp,by simp,ha,hb⟩
def accW:Ex→Prop
 | .S _ acc=>wfN acc
 | _=>True
theorem Ev.wf {g:List ze} {inp:z7} {x:Ex} {k:Nat} {r:Out} (h:Ev g inp x k r):accW x→∀ e m,r=some (e,m)→wfN m:=by
 induction h with
 | cnil=>intro _ e m h;cases h
 | chit _ ih=>intro _ e m h;exact ih trivial e m h
 | cmiss _ _ _ ih=>intro _ e m h;exact ih trivial e m h
 | snil=>intro ha e m h;cases h;exact ha
 | sfail=>intro _ e m h;cases h
 | sstep _ _ ih1 ih2=>intro ha e m h;exact ih2 (zdk ha (ih1 trivial _ _ rfl)) e m h
 | tplain _ ih=>exact ih
 | tand _ ih=>intro _ e m h;unfold Ja at h;split at h<;>cases h;exact trivial
 | tnot _ ih=>intro _ e m h;unfold Ja at h;split at h<;>cases h;exact trivial
 | iplain _ ih=>exact ih
 | @imaybe p k r _ ih=>
  intro ha e m h
  cases r with
  | none=>cases h;exact trivial
  | some x=>exact ih ha e m h
 | @istar p k r _ ih=>
  intro ha e m h
  cases r with
  | none=>cases h;exact trivial
  | some x=>exact ih ha e m h
 | iplus _ ih=>exact ih
 | qno=>intro _ e m h;cases h
 | qlast _ _ ih1 _=>exact ih1
 | qmore _ _ ih1 ih2=>intro ha e m h;cases h;exact zdk (ih1 ha _ _ rfl) (ih2 ha _ _ rfl)
 | @pname b k r hlt hc _ ih=>
  intro ha e m h
  cases r with
  | none=>cases h
  | some x=>
   obtain⟨e',m'⟩:=x
   have:=ih trivial e' m' rfl
   unfold QZ at h
   simp only[] at h
   split at h<;>cases h
   ·exact this
   ·exact trivial
 | plit=>intro _ e m h;unfold Ya at h;split at h<;>cases h;exact trivial
 | pcls=>
  intro _ e m h
  unfold Qj at h
  split at h
  ·cases h
  ·split at h<;>cases h;exact trivial
 | pany=>
  intro _ e m h
  unfold Qj at h
  split at h
  ·cases h
  ·split at h<;>cases h;exact trivial
 | pgroup _ ih=>exact ih
end Go.Proofs.YtiganlkabilblaaGreatDoor
namespace Go.Proofs.YtiganlkabilblaaGreatDoor
open Go.RowKit
attribute [local go_sem ↓] Go.wp_at_zero Go.wp_at_succ
structure QG (w:World) (w0:World) (tb eb ec:Nat) (vx vr:Value) (ps:List (Thk.RE × Value × Value)) (rs:List (Thk.z7 × Nat)) (s:ByteArray) (rbs:List Nat) (f:Nat) (parts:List Nat) (v:Option Nat) (O:Obj) (j:Nat) (o:Option Nat) (wr:World):Prop where
 sq:match o with
  | none=>v=none
  | some x=>Jb (evS ps rs s f) (parts.drop j) x=some v∧x≤s.size
 st:Stt w0 tb eb ec vx vr ps rs s rbs wr
 kp:KpM rbs w.heap.size w wr
 own:wr.heap[w.heap.size]? = some O
theorem KpM.below {rbs:List Nat} {B:Nat} {w w':World} (h:KpM rbs w.heap.size w w') (hr:∀ b ∈ rbs,B≤b) (hB:B≤w.heap.size):Below B w w':=⟨h.os,h.tape,h.output,h.size,fun k hk=>h.block k (by omega) (fun hb=>by have:=hr k hb;omega)⟩
end Go.Proofs.YtiganlkabilblaaGreatDoor
