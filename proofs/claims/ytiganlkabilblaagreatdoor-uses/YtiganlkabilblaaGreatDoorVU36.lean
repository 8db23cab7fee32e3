import Derived.Test.YtiganlkabilblaaGreatDoorVU28
import Derived.Test.YtiganlkabilblaaGreatDoorVU35
import Derived.BigQuiet
import Derived.Test.YtiganlkabilblaaGreatDoorVU14
import Derived.Test.YtiganlkabilblaaGreatDoorVU13
import Derived.Laws.AppendOwnNone
import Derived.Deep.Upon
import Derived.Deep.RegionHeldLaw
import Derived.Deep.CutRange
import Derived.Deep.AppendLies
import Derived.Lib.AppendStr
import Derived.Laws.BytesString
import Derived.Deep.RegionHeld
import Derived.Test.YtiganlkabilblaaGreatDoorVU32
import Derived.Test.YtiganlkabilblaaGreatDoorVU33
import Derived.Test.YtiganlkabilblaaGreatDoorVU34
set_option linter.all false
set_option maxHeartbeats 64000000
set_option maxRecDepth 100000
namespace Go.Proofs.YtiganlkabilblaaGreatDoor
open Go.RowKit Thk
attribute [local go_sem ↓] Go.wp_at_zero Go.wp_at_succ
theorem zlp (t s:ByteArray) (w:World) (hs:t.size≤maxLen) (hs2:s.size≤maxLen) (hg:QD w) :
  Calls Tryz.prog 29 #[.string t,.string s] w fun e w'=>qF t.data.toList s w e w':=by
 have htk:=zkv t s w hs hs2 hg
 go_enter Tryz.func29,Tryz.ntmps29
 go_wp2_with fail
 refine htk.mono ?_
 rintro e w1 ⟨hb,res,hP,hE⟩
 have hz:=hb.size
 have HB:=z6 hb
 have HP:=z6 hP
 clear htk hb hP hg
 cases res with
 | error x=>
  obtain⟨er,p⟩:=x
  obtain⟨h0,rfl⟩:=hE
  simp only[J1]
  go_wp2_with fail
  go_ret2
  exact⟨HB.out.alloc hz _,_,_,rfl,.error (er,p),HP.out,rfl,rfl⟩
 | ok y=>
  obtain⟨g,E⟩:=y
  obtain⟨hgl,hE⟩:=hE
  by_cases hlong : 200<s.size
  ·rw[if_pos hlong] at hE
   subst hE
   simp only[J1]
   go_wp2_with fail
   go_ret2
   refine⟨HB.out.alloc hz _,_,_,rfl,.ok (g,E),HP.out,?_⟩
   simp only[]
   rw[if_pos hlong]
   exact⟨rfl,rfl⟩
  ·rw[if_neg hlong] at hE
   obtain⟨o,ho,rfl⟩:=hE
   have hgp:=HP.out.ends.pos
   cases o with
   | none=>
    have HO:=z6 ho
    simp only[J1,Option.isSome_none]
    clear ho
    go_wp2_with fail
    go_ret2
    refine⟨HB.out.alloc hz _,_,_,rfl,.ok (g,E),HP.out,?_⟩
    simp only[]
    rw[if_neg hlong]
    exact⟨none,HO.out,rfl,rfl⟩
   | some x=>
    obtain⟨e1,m⟩:=x
    have hsm:=qj HP.out.ends hgl (show s.data.toList.length≤200 by show s.size≤200;omega) ho
    simp only[] at hsm
    have hwf:wfN m:=(ho hgp).wf trivial e1 m rfl
    have HC:Hid (∀ O,Calls Tryz.prog 57 #[.agg #[.int .i64 ((0:Nat):Int),.int .i64 ((0:Nat):Int),.int .i64 e1,ntV m]] (w1.alloc O) fun e' w2=>∃ a2 n2 c2,e' = .returned (.slice a2 n2 c2)∧Hid (qF t.data.toList s w (.returned (.tuple #[.slice a2 n2 c2,.int .i64 0])) w2)):=z6 (fun O=>(zgO (w1.alloc O) 0 0 e1 m hwf (by omega)).mono (by
     rintro e' w2 ⟨a2,c2,rfl,h1,h2⟩
     refine⟨a2,_,c2,rfl,z6 ⟨(HB.out.alloc hz _).trans (h2.mono (by simp;omega)),_,_,rfl,.ok (g,E),HP.out,?_⟩⟩
     simp only[]
     rw[if_neg hlong]
     exact⟨some (e1,m),ho,by simp,a2,c2,rfl,Zn h1 (by simp;omega)⟩))
    have hnf:=QV m
    simp only[J1,Option.isSome_some]
    clear ho hsm hwf
    generalize ntV m=nv at *
    simp only[Int.natCast_zero] at HC ⊢
    rcases hnf with rfl | ⟨tt,vv,rfl⟩
    all_goals
     go_wp2_with fail
     refine (HC.out _).mono ?_
     rintro _ w2 ⟨a2,n2,c2,rfl,HZ⟩
     clear HC
     go_wp2_with fail
     go_ret2
     exact HZ.out
def Y0 (w:World) (B:Nat) (v:Value) (l:List Nod):Prop:=w.ownsRow B 60 4 v l.length (l.flatMap ZZ)
theorem zgN (ps:List Nod) (i j:Nat) (hi:i<ps.length) (hj:j<4):(ps.flatMap ZZ)[i * 4+j]? = (ZZ ps[i])[j]? := by
 induction ps generalizing i with
 | nil=>simp at hi
 | cons p ps ih=>
  have hl:(ZZ p).length=4:=rfl
  cases i with
  | zero=>
   simp only[List.flatMap_cons,Nat.zero_mul,Nat.zero_add,List.getElem_cons_zero]
   rw[List.getElem?_append_left (by omega)]
  | succ i=>
   simp only[List.flatMap_cons,List.getElem_cons_succ]
   rw[List.getElem?_append_right (by omega),hl,show (i+1) * 4+j - 4=i * 4+j from by omega]
   exact ih i (by simpa using hi)
theorem Y0.gen {w:World} {B:Nat} {v:Value} {l:List Nod} (h:Y0 w B v l):∃ pa pc,v = .slice pa l.length pc∧l.length≤9223372036854775807∧∀ i (hi:i<l.length),∃ pg,pa=some ⟨pg,0,none⟩∧pg<w.heap.size∧w.cell? ⟨pg,i * 4,none⟩=some (.int .i64 l[i].1)∧w.cell? ⟨pg,i * 4+1,none⟩=some (.int .i64 l[i].2.1)∧w.cell? ⟨pg,i * 4+2,none⟩=some (.int .i64 l[i].2.2.1)∧w.cell? ⟨pg,i * 4+3,none⟩=some (.int .i64 l[i].2.2.2):=by
 have h':=h
 rcases h'.2 with ⟨rfl,h0⟩ | ⟨g,cap,cur,rfl,_,hg,h1,h2,_⟩
 ·exact⟨none,0,by rw[h0],by omega,fun j hj=>by omega⟩
 ·have hc:∀ i (hi:i<l.length) j,j<4→w.cell? ⟨g,i * 4+j,none⟩=(ZZ l[i])[j]? := fun i hi j hj=>by
   have:=h.cellAt (g:=g) (i * 4+j) (by omega)
   rw[zgN _ _ _ hi hj] at this;exact this
  exact⟨_,cap,rfl,by unfold maxLen at h2;omega,fun i hi=>⟨g,rfl,za hg,hc i hi 0 (by decide),hc i hi 1 (by decide),hc i hi 2 (by decide),hc i hi 3 (by decide)⟩⟩
theorem Zo.rules20 {l:List UInt8} {g:List ze} {E:List Bool} (h:Zo l (.ok (g,E))):g.length≤20:=by
 cases h with
 | ok h _=>
  obtain⟨_,S',_,hok⟩:=zcf h
  have:=hok.le
  omega
theorem Yw.both {t:List UInt8} {s:ByteArray} {B B2:Nat} {w w2:World} {v c v2 c2:Value} (h:Yw t s B w v c) (h2:Yw t s B2 w2 v2 c2):∃ (L:List Nod) (er:Int),L.length≤5000∧c = .int .i64 er∧c2 = .int .i64 er∧Y0 w B v L∧Y0 w2 B2 v2 L:=by
 obtain⟨res,hP,hE⟩:=h
 obtain⟨res2,hP2,hE2⟩:=h2
 have:=hP.det hP2
 subst this
 cases res with
 | error x=>
  obtain⟨er,p⟩:=x
  obtain⟨rfl,rfl⟩:=hE
  obtain⟨rfl,rfl⟩:=hE2
  exact⟨[],er,by simp,rfl,rfl,World.ownsRow_nil _ _ _ _,World.ownsRow_nil _ _ _ _⟩
 | ok y=>
  obtain⟨g,E⟩:=y
  simp only[] at hE hE2
  by_cases hlong : 200<s.size
  ·rw[if_pos hlong] at hE hE2
   obtain⟨rfl,rfl⟩:=hE
   obtain⟨rfl,rfl⟩:=hE2
   exact⟨[],1,by simp,rfl,rfl,World.ownsRow_nil _ _ _ _,World.ownsRow_nil _ _ _ _⟩
  ·rw[if_neg hlong] at hE hE2
   obtain⟨o,ho,rfl,h1⟩:=hE
   obtain⟨o2,ho2,rfl,h2⟩:=hE2
   have:=(ho hP.ends.pos).det _ (ho2 hP.ends.pos)
   subst this
   cases o with
   | none=>
    subst h1
    subst h2
    exact⟨[],0,by simp,rfl,rfl,World.ownsRow_nil _ _ _ _,World.ownsRow_nil _ _ _ _⟩
   | some x=>
    obtain⟨a,cp,rfl,r1⟩:=h1
    obtain⟨a2,cp2,rfl,r2⟩:=h2
    have hsm:=qj hP.ends hP.rules20 (show s.data.toList.length≤200 by show s.size≤200;omega) ho
    exact⟨K0 x,0,by simp only[K0,List.length_cons,YS];omega,rfl,rfl,r1,r2⟩
theorem Yw.form {t:List UInt8} {s:ByteArray} {B:Nat} {w:World} {v c:Value} (h:Yw t s B w v c):∃ a n cp er,v = .slice a n cp∧c = .int .i64 er:=by
 obtain⟨L,er,_,h1,_,h2,_⟩:=h.both h
 obtain⟨a,cp,h3⟩:=zl h2
 exact⟨a,_,cp,er,h3,h1⟩
end Go.Proofs.YtiganlkabilblaaGreatDoor
namespace Go.Proofs.YtiganlkabilblaaGreatDoor
open Go.RowKit Thk Go.Lib
structure Pr where
 xb:Nat
 cb:Nat
 mb:Nat
 N:List Nd
 bx:List (Nat × Nat × Nat)
 rs:List Nat
 vr:Value
 S:Nat→Prop
 t:ByteArray
 g:List ze
 E:List Bool
 s:ByteArray
 dn:Bool
 iv:Value
def Pr.rd (B:Nat) (w:World) (p:Pr):Prop:=
 if p.dn=true then p.iv = .slice none 0 0∧∃ o,(∀ h : 0<p.g.length,Ev p.g p.s.data.toList (.C p.g[0].choice) 0 o)∧w.heap[p.xb]? = some (rdU p.mb 2 (.slice none 0 0) o)
 else w.heap[p.xb]? = some (ZE p.mb 1 p.iv 0 .nilIface false)∧w.ownsRow B 5 1 p.iv p.s.size (strCells p.s)
end Go.Proofs.YtiganlkabilblaaGreatDoor
namespace Go.Proofs.YtiganlkabilblaaGreatDoor
open Go.RowKit Thk Go.Lib
attribute [local go_sem ↓] Go.wp_at_zero Go.wp_at_succ
theorem zl5 (x y z:Value) (w:World):(Instr.field 43 (.agg #[x,y,z]) 0).run Tryz.prog w = .ok x w:=by kernel_rfl
theorem zks (s:ByteArray) (w:World) (hs:s.size≤maxLen):Calls Tryz.prog 24 #[.string s] w fun e w'=>∃ s':ByteArray,e = .returned (.string s')∧s'.size≤60∧w'=w:=by
 unfold maxLen at hs
 by_cases h : 60<s.size
 ·have h':(60:Int)<s.size:=by omega
  go_enter Tryz.func24,Tryz.ntmps24
  go_wp2_with fail
  go_ret
  exact⟨_,rfl,by simp[ByteArray.size_extract];omega,rfl⟩
 ·have h':¬ (60:Int)<s.size:=by omega
  go_enter Tryz.func24,Tryz.ntmps24
  go_wp2_with fail
  go_ret
  exact⟨_,rfl,by omega,rfl⟩
section
variable {w0 w : World} {xb : Nat} {T s : ByteArray} {d : Bool}
end
theorem Yw.zero {t:List UInt8} {s:ByteArray} {B:Nat} {w:World} {v c:Value} {y:List ze × List Bool} (h:Yw t s B w v c) (hP:Zo t (.ok y)) (hs:s.size≤200):c = .int .i64 0:=by
 obtain⟨res,hP2,hE⟩:=h
 have:=hP2.det hP
 subst this
 obtain⟨g,E⟩:=y
 simp only[] at hE
 rw[if_neg (by omega)] at hE
 obtain⟨o,_,rfl,_⟩:=hE
 rfl
end Go.Proofs.YtiganlkabilblaaGreatDoor
namespace Go.Proofs.YtiganlkabilblaaGreatDoor
open Go.RowKit Thk Go.Lib
theorem zmK {p : Nod} {l : List Nod} (h : ChR p l) : ∀ i (hi : i < l.length), Rn ((p :: l)[i]'(by simp; omega)) l[i] := by
 induction l generalizing p with
 | nil=>intro i hi;simp at hi
 | cons x l ih=>
  intro i hi
  cases i with
  | zero=>exact h.1
  | succ i=>exact ih h.2 i (by simpa using hi)
structure zmB (c:Z5) (inp:z7) (e:Nat) (L:List Nod) (i:Nat) (hi:i<L.length):Prop where
 rule:L[i].1≤2
 le:L[i].2.1≤L[i].2.2.1
 upto:L[i].2.2.1≤inp.length
 some' : 0<i→L[i].2.1<L[i].2.2.1
 first:i=0→L[i]=(0,0,e,0)
 deep:L[i].2.2.2≤i
 took:∃ r,Ev (g4 (K2.getD L[i].1 []) c) (inp.drop L[i].2.1) (.C [[.mk 0 (.name (K2.getD L[i].1 [])) 0]]) 0 r∧fin r=some (L[i].2.2.1 - L[i].2.1)
 rel : ∀ h0 : 0 < i, Rn (L[i - 1]'(by omega)) L[i]
theorem zn3 {c:Z5} {inp:z7} {e:Nat} {m:Nt} (hc:inC zkf c) (h:Ev (gs c) inp (.C c) 0 (some (e,m))) (i:Nat) (hi:i<(K0 (e,m)).length):zmB c inp e (K0 (e,m)) i hi:=by
 have hle:=h.le (Nat.zero_le _) e m rfl
 have hw:wn 0 e m:=h.wn (Nat.zero_le _) 0 rfl e m rfl
 have hu:okU c inp m:=h.okU (Nat.zero_le _) hc trivial e m rfl
 have hch:=(zmO m 0 e 1 (0,0,e,0) hw (Nat.le_refl _) (.inl ⟨rfl,Nat.le_refl _,Nat.le_refl _⟩)).1
 have hrel : ∀ j (hj : j < (zY 1 m).length), Rn ((K0 (e, m))[j]'(by simp [K0]; omega)) (zY 1 m)[j] := fun j hj => zmK hch j hj
 have hdeep:∀ j (hj:j<(K0 (e,m)).length),(K0 (e,m))[j].2.2.2≤j:=by
  intro j
  induction j with
  | zero=>intro _;exact Nat.le_refl _
  | succ j ih=>
   intro hj
   have hj':j<(zY 1 m).length:=by simp[K0] at hj;omega
   have h1:=(hrel j hj').2.1
   have h2:=ih (by simp[K0] at hj ⊢;omega)
   have h3:(K0 (e,m))[j+1]=(zY 1 m)[j]:=rfl
   rw[h3]
   omega
 cases i with
 | zero=>
  have h0:(K0 (e,m))[0]=(0,0,e,0):=rfl
  refine⟨by rw[h0];exact Nat.zero_le _,by rw[h0];exact Nat.zero_le _,by rw[h0];exact hle.2,fun h=>absurd h (by omega),fun _=>h0,hdeep 0 hi,?_,fun h=>absurd h (by omega)⟩
  rw[h0]
  exact zmG (i:=0) (.inl rfl) hc h (Nat.zero_le _)
 | succ i=>
  have hi':i<(zY 1 m).length:=by simp[K0] at hi;omega
  have h3:(K0 (e,m))[i+1]=(zY 1 m)[i]:=rfl
  obtain⟨k1,k2,k3,m',k4⟩:=zmP m 0 e 1 hu hw (zY 1 m)[i] (List.getElem_mem _)
  refine⟨by rw[h3];omega,by rw[h3];omega,by rw[h3];exact k3,fun _=>by rw[h3];exact k2,fun h=>absurd h (by omega),hdeep _ hi,?_,fun _=>?_⟩
  ·rw[h3]
   exact zmG (.inr k1) hc k4 (by omega)
  ·rw[h3]
   exact hrel i hi'
theorem zmX {n:Option Nat} (h:Tk [[.mk 0 (.name zbT) 0]] [49,50] n):n=some 2:=by
 obtain⟨o,ho,rfl⟩:=h
 have hno:Ev (gs [[.mk 0 (.name zbT) 0]]) [49,50] (.C zk6.choice) 2 none:=
  .cmiss (.sfail (.tplain (.iplain (Ev.pcls (l:=[(48,57)]) (k:=2) (by decide))))) .cnil
 have h2:Ev (gs [[.mk 0 (.name zbT) 0]]) [49,50] (.C zk6.choice) 1 (some (2,.nil)):=
  .chit (.sstep (e:=2) (m:=.nil) (.tplain (.iplain (Ev.pcls (l:=[(48,57)]) (k:=1) (by decide)))) (.sstep (e:=2) (m:=.nil) (.tplain (.imaybe (Ev.pname (g:=gs [[.mk 0 (.name zbT) 0]]) (b:=zbT) (by show idx0 K2 zbT<3;decide) (by rfl) hno))) .snil))
 have h1:Ev (gs [[.mk 0 (.name zbT) 0]]) [49,50] (.C zk6.choice) 0 (some (2,.use 1 1 2 .nil)):=
  .chit (.sstep (e:=1) (m:=.nil) (.tplain (.iplain (Ev.pcls (l:=[(48,57)]) (k:=0) (by decide)))) (.sstep (e:=2) (m:=.use 1 1 2 .nil) (.tplain (.imaybe (Ev.pname (g:=gs [[.mk 0 (.name zbT) 0]]) (b:=zbT) (by show idx0 K2 zbT<3;decide) (by rfl) h2))) .snil))
 have h0:Ev (gs [[.mk 0 (.name zbT) 0]]) [49,50] (.C [[.mk 0 (.name zbT) 0]]) 0 (some (2,.use 1 0 2 (.use 1 1 2 .nil))):=
  .chit (.sstep (e:=2) (m:=.use 1 0 2 (.use 1 1 2 .nil)) (.tplain (.iplain (Ev.pname (g:=gs [[.mk 0 (.name zbT) 0]]) (b:=zbT) (by show idx0 K2 zbT<3;decide) (by rfl) h1))) .snil)
 rw[ho.det _ h0]
 rfl
theorem zn1 {x:List UInt8} {c:Z5} {ee:Bool} {dep:Nat} (hx:Px x dep c) (hd':dep≤6) (ht:Gt c ee) (hl:x.length≤1000) {nm:List UInt8} (hn:nm ∈ K2) (T s:ByteArray) (hT:T=bs (zmu++(nm++(32::(hdB++(x++zjP)))))) (hs:s.size≤60) (w:World) (hE:QD w) {k:Nat} (hk:∃ r,Ev (g4 nm c) s.data.toList (.C [[.mk 0 (.name nm) 0]]) 0 r∧fin r=some k) :
  Calls Tryz.prog 28 #[.string T,.string s] w fun e w'=>e = .returned (.tuple #[.int .i64 k,.bool true,.int .i64 0])∧Below w.heap.size w w':=by
 have hnl:nm.length≤4:=by
  simp only[List.mem_cons,List.not_mem_nil,or_false] at hn
  rcases hn with rfl | rfl | rfl<;>decide
 have hTl:T.data.toList=zmu++(nm++(32::(hdB++(x++zjP)))):=by rw[hT]
 have hTs:T.size≤maxLen:=by
  rw[hT,zjU]
  simp
  unfold maxLen
  omega
 refine (zlo T s w hTs (by unfold maxLen;omega) hE).mono ?_
 intro e w' hp
 obtain⟨hb,a,b,z,rfl,hI⟩:=hp.is
 obtain⟨res,hP,hC⟩:=hI
 rw[hTl] at hP
 obtain⟨E,rfl⟩:=zmQ hn (zmR hn hx hd') ht (by simp;omega) hP
 simp only[] at hC
 rw[if_neg (by omega)] at hC
 obtain⟨o,ho,rfl,rfl,rfl⟩:=hC
 have ho':Ev (g4 nm c) s.data.toList (.C [[.mk 0 (.name nm) 0]]) 0 o:=ho (by show (0:Nat)<4;decide)
 obtain⟨r,h1,h2⟩:=hk
 rw[ho'.det _ h1,h2]
 exact⟨rfl,hb⟩
end Go.Proofs.YtiganlkabilblaaGreatDoor
