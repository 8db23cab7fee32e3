import Derived.Test.YtiganlkabilblaaGreatDoorVP23
import Derived.Test.YtiganlkabilblaaGreatDoorVP00
set_option linter.all false
set_option maxHeartbeats 64000000
set_option maxRecDepth 100000
namespace Go.Proofs.YtiganlkabilblaaGreatDoor
open Go.RowKit
abbrev gs (c:Thk.Z5):List Thk.ze:=[⟨nmS,c⟩,zk6,zjz]
theorem zkr {x:List UInt8} {dep:Nat} {c:Thk.Z5} (hx:Px x dep c) (hd:dep≤6):Thk.ZU 0 (Thk.Qn (hdB++(x++zjP))) (.ok (gs c)):=by
 rw[YZ,zkQ]
 have h1:=hx 0 5 zjP (by omega) (zlv _)
 rw[zkm] at h1
 exact .more (.ok rfl rfl (by decide) h1) (by simp[zk0,Thk.hd]) (zlr _)
theorem zla {c:Thk.Z5} {e:Bool} (hu:Thk.zx (zv K2) c=false)
  (h3:∀ E:List UInt8→Bool,E zbT=false→E zbU=false→Thk.Zl E c=e∧Thk.zx (zJ E) c=false∧∀ b ∈ Thk.ZC E c,b=zbT∨b=zbU) (x:Nat × Nat):¬ Qh (gs c) (.error x):=by
 have hn:zg (gs c)=K2:=rfl
 have hE0:∀ E,QQ K2 (gs c) E→Eb K2 E zbT=false∧Eb K2 E zbU=false:=by
  intro E hE
  have hc:QP K2 (gs c) [e,false,false]:=by
   intro i hi
   rcases lt3 hi with rfl | rfl | rfl
   ·intro h
    have:=(h3 (Eb K2 [e,false,false]) rfl rfl).1
    simp only[List.getElem_cons_zero] at h
    rw[this] at h
    simp[h]
   ·intro h;simp[Thk.Zl,Thk.ZH,Thk.Zu,Thk.Ze] at h
   ·intro h;simp[Thk.Zl,Thk.ZH,Thk.Zu,Thk.Ze] at h
  constructor
  ·have:=hE _ hc 1
   show E.getD 1 false=false
   cases h:E.getD 1 false with
   | false=>rfl
   | true=>exact absurd (this h) (by simp)
  ·have:=hE _ hc 2
   show E.getD 2 false=false
   cases h:E.getD 2 false with
   | false=>rfl
   | true=>exact absurd (this h) (by simp)
 intro h
 cases h with
 | twice h=>
  obtain⟨h1,h2,_⟩:=h
  rcases lt3 h1 with rfl | rfl | rfl<;>exact absurd h2 (by rw[hn];decide)
 | unknown _ h=>
  obtain⟨h1,h2,_⟩:=h
  rw[hn] at h2
  rcases lt3 h1 with rfl | rfl | rfl
  ·simp only[List.getElem_cons_zero] at h2
   rw[hu] at h2;cases h2
  ·simp[Thk.zx,Thk.Zc,Thk.ZG,Thk.Zi,zv,Thk.Term.piece] at h2
  ·simp[Thk.zx,Thk.Zc,Thk.ZG,Thk.Zi,zv,Thk.Term.piece] at h2
 | loop _ _ _ _ hl h=>
  rw[hn] at hl h
  obtain⟨h1,h2,_⟩:=h
  obtain⟨q1,q2⟩:=hE0 _ hl
  obtain⟨_,q3,_⟩:=h3 _ q1 q2
  rcases lt3 h1 with rfl | rfl | rfl
  ·simp only[List.getElem_cons_zero] at h2
   rw[q3] at h2;cases h2
  ·simp[Thk.zx,Thk.Zc,Thk.ZG,Thk.Zi,zJ,Thk.Term.piece,Thk.Term.behind] at h2
  ·simp[Thk.zx,Thk.Zc,Thk.ZG,Thk.Zi,zJ,Thk.Term.piece,Thk.Term.behind] at h2
 | left a1 a2 a3 a4 hl a6 h=>
  rename_i E i
  rw[hn] at hl h
  obtain⟨h1,h2,_⟩:=h
  obtain⟨q1,q2⟩:=hE0 _ hl
  obtain⟨_,_,q3⟩:=h3 _ q1 q2
  have r1:∀ j,Za K2 E (gs c) 1 j=false:=by
   intro j
   show (ZJ K2 _ (Thk.ZC (Eb K2 E) zk6.choice)).getD j false=false
   rw[zkd _ _ _ _ (by simp[Thk.ZC,Thk.Q2,Thk.JR,Thk.Zy,Thk.Zu,Thk.Ze])]
   exact zkx j
  have r2:∀ j,Za K2 E (gs c) 2 j=false:=by
   intro j
   show (ZJ K2 _ (Thk.ZC (Eb K2 E) zjz.choice)).getD j false=false
   rw[zkd _ _ _ _ (by simp[Thk.ZC,Thk.Q2,Thk.JR,Thk.Zy,Thk.Zu,Thk.Ze])]
   exact zkx j
  have r0:∀ i,Za K2 E (gs c) i 0=false:=by
   intro i
   match i with
   | 1=>exact r1 0
   | 2=>exact r2 0
   | 0=>
    show (ZJ K2 _ (Thk.ZC (Eb K2 E) c)).getD 0 false=false
    rw[zkd]
    ·rfl
    ·intro b hb
     rcases q3 b hb with rfl | rfl<;>decide
   | n+3=>rfl
  have:=Wm3 _ r1 r2 r0 i h1
  rw[show (gs c).length=3 from rfl] at h2
  rw[this] at h2;cases h2
theorem Zo.gram {l:List UInt8} {g g':List Thk.ze} {E:List Bool} (h:Zo l (.ok (g',E))) (hg:Thk.ZU 0 (Thk.Qn l) (.ok g)):g'=g:=by
 cases h with
 | ok h _=>
  cases h with
  | read _ h=>have:=h.det hg;cases this;rfl
theorem Gx_s {x:List UInt8} {e:Bool} {dep:Nat} (hx:Gx x e dep) (hd:dep≤6) (hl:x.length≤1000):∃ c,Px x dep c∧∀ res,Zo (hdB++(x++zjP)) res→∃ E,res = .ok (gs c,E):=by
 obtain⟨c,hc,hu,h3⟩:=hx
 refine⟨c,hc,fun res h=>?_⟩
 obtain⟨⟨g,E⟩,rfl⟩:=h.fine (by simp;omega) (zkr hc hd) (zla (zlz hu) h3)
 exact⟨E,by rw[h.gram (zkr hc hd)]⟩
end Go.Proofs.YtiganlkabilblaaGreatDoor
