import Derived.Test.YtiganlkabilblaaDoorV02
import Derived.Defers
import Derived.Deep.LoopGhost
set_option linter.all false
set_option maxHeartbeats 64000000
set_option maxRecDepth 100000
namespace Go.Proofs.YtiganlkabilblaaDoor
open Go.RowKit
def zu (ps:List (Thk.Tok × Value)) (n:Nat):List Thk.Tok:=(ps.map (·.1)).drop n
def QE (ps:List (Thk.Tok × Value)):Prop:=∀ i (h:i<ps.length),Qm ps[i].1.kind∧(ps[i].1.kind.last=false→i+1<ps.length)
theorem zdg {ps:List (Thk.Tok × Value)} {n:Nat} (h:n<ps.length):zu ps n=ps[n].1::zu ps (n+1):=by
 unfold zu
 rw[List.drop_eq_getElem_cons (by simpa using h)]
 simp
theorem Z0 {ps:List (Thk.Tok × Value)} {n:Nat} (h:n<ps.length):Thk.hd (zu ps n)=ps[n].1:=by rw[zdg h];rfl
theorem Qy {ps:List (Thk.Tok × Value)} {n:Nat} (h:n<ps.length):(zu ps n).tail=zu ps (n+1):=by rw[zdg h];rfl
theorem zfB {k:Thk.TK} (hk:Qm k):(zt k == 3)=k.isArrow:=by
 cases k with
 | sign c=>
  have:=KW hk
  rw[beq_eq_false_iff_ne.2 (by simp only[zt];omega)]
  rfl
 | _=>rfl
theorem ziJ {c:UInt8} (h:Thk.Qf c=true):c=47∨c=38∨c=33∨c=63∨c=42∨c=43∨c=40∨c=41∨c=46:=by
 simpa [Thk.Qf] using h
theorem JA (w:World) (rb tb tc:Nat) (ps:List (Thk.Tok × Value)) (n d:Nat) (h:Rd w rb tb tc ps n d) (hn:n<ps.length) (K:Int) (hK:zt ps[n].1.kind=K) :
  Calls Tryd.prog 32 #[.pointer (some ⟨rb,0,none⟩)] w fun e w'=>e = .returned (.int .u8 K)∧∃ q,w'=w.drewN q:=hK ▸ zfI w rb tb tc ps n d h hn
theorem zdU (w:World) (rb tb tc:Nat) (ps:List (Thk.Tok × Value)) (n d:Nat) (h:Rd w rb tb tc ps n d) (hg:QE ps) (hn:n<ps.length) (hd:d≤6) :
  Calls Tryd.prog 66 #[.pointer (some ⟨rb,0,none⟩)] w fun e w'=>e = .returned (.bool (Thk.zX d (zu ps n)))∧∃ q,w'=w.drewN q:=by
 obtain⟨hok,hnx⟩:=hg n hn
 cases hk:ps[n].1.kind with
 | name=>
  have hn1:=hnx (by rw[hk];rfl)
  have e:Thk.zX d (zu ps n) = !(decide (d=0) && (zt ps[n+1].1.kind == 3)):=by
   unfold Thk.zX
   rw[Z0 hn,Qy hn,Z0 hn1,hk,zfB (hg (n+1) hn1).1]
   simp only[]
   rfl
  rw[e]
  have hc:=JA w rb tb tc ps n d h hn 2 (by rw[hk];rfl)
  have hb:=fun q=>zdT (w.drewN q) rb tb tc ps n d (h.drewN q) hn1 hd
  clear e
  generalize (decide (d=0) && (zt ps[n+1].1.kind == 3))=b at *
  go_enter Tryd.func66,Tryd.ntmps66
  go_wp2_with (first | (go_at_call 32;refine hc.mono ?_;rintro e w1 ⟨rfl,q,rfl⟩) | (go_at_call 68;refine (hb _).mono ?_;rintro e w1 ⟨rfl,q,rfl⟩))
  go_ret
  exact⟨rfl,_,rfl⟩
 | fin=>
  have e:Thk.zX d (zu ps n)=false:=by unfold Thk.zX;rw[Z0 hn,hk]
  rw[e]
  have hc:=JA w rb tb tc ps n d h hn 0 (by rw[hk];rfl)
  go_enter Tryd.func66,Tryd.ntmps66
  go_wp2_with (first | (go_at_call 32;refine hc.mono ?_;rintro e w1 ⟨rfl,q,rfl⟩))
  go_ret
  exact⟨rfl,_,rfl⟩
 | bad=>
  have e:Thk.zX d (zu ps n)=false:=by unfold Thk.zX;rw[Z0 hn,hk]
  rw[e]
  have hc:=JA w rb tb tc ps n d h hn 1 (by rw[hk];rfl)
  go_enter Tryd.func66,Tryd.ntmps66
  go_wp2_with (first | (go_at_call 32;refine hc.mono ?_;rintro e w1 ⟨rfl,q,rfl⟩))
  go_ret
  exact⟨rfl,_,rfl⟩
 | arrow=>
  have e:Thk.zX d (zu ps n)=false:=by unfold Thk.zX;rw[Z0 hn,hk]
  rw[e]
  have hc:=JA w rb tb tc ps n d h hn 3 (by rw[hk];rfl)
  go_enter Tryd.func66,Tryd.ntmps66
  go_wp2_with (first | (go_at_call 32;refine hc.mono ?_;rintro e w1 ⟨rfl,q,rfl⟩))
  go_ret
  exact⟨rfl,_,rfl⟩
 | lit=>
  have e:Thk.zX d (zu ps n)=true:=by unfold Thk.zX;rw[Z0 hn,hk]
  rw[e]
  have hc:=JA w rb tb tc ps n d h hn 4 (by rw[hk];rfl)
  go_enter Tryd.func66,Tryd.ntmps66
  go_wp2_with (first | (go_at_call 32;refine hc.mono ?_;rintro e w1 ⟨rfl,q,rfl⟩))
  go_ret
  exact⟨rfl,_,rfl⟩
 | cls=>
  have e:Thk.zX d (zu ps n)=true:=by unfold Thk.zX;rw[Z0 hn,hk]
  rw[e]
  have hc:=JA w rb tb tc ps n d h hn 5 (by rw[hk];rfl)
  go_enter Tryd.func66,Tryd.ntmps66
  go_wp2_with (first | (go_at_call 32;refine hc.mono ?_;rintro e w1 ⟨rfl,q,rfl⟩))
  go_ret
  exact⟨rfl,_,rfl⟩
 | sign c=>
  rw[hk] at hok
  have e:Thk.zX d (zu ps n)=(c == 38 || c == 33 || c == 46 || c == 40):=by unfold Thk.zX;rw[Z0 hn,hk]
  rw[e]
  have hc:=JA w rb tb tc ps n d h hn c.toNat (by rw[hk];rfl)
  clear hk e hnx
  rcases ziJ hok with rfl | rfl | rfl | rfl | rfl | rfl | rfl | rfl | rfl
  all_goals
   simp at hc
   clear hok
   go_enter Tryd.func66,Tryd.ntmps66
   go_wp2_with (first | (go_at_call 32;refine hc.mono ?_;rintro e w1 ⟨rfl,q,rfl⟩))
   go_ret
   exact⟨rfl,_,rfl⟩
def QJ (ks:List UInt8) (K:Int):Bool:=ks.any fun c=>(c.toNat:Int) == K
theorem zcJ (w:World) (rb tb tc:Nat) (ps:List (Thk.Tok × Value)) (n d:Nat) (h:Rd w rb tb tc ps n d) (hn:n<ps.length) (K:Int) (hK:zt ps[n].1.kind=K)
  (ks:List UInt8) (kb:Nat) (hks:ks.length≤3) (hcs:∀ i (hi:i<ks.length),w.cell? ⟨kb,i,none⟩=some (.int .u8 ks[i].toNat)) :
  Calls Tryd.prog 69 #[.pointer (some ⟨rb,0,none⟩),.slice (some ⟨kb,0,none⟩) ks.length ks.length] w fun e w'=>
   (QJ ks K=true→e = .returned (.int .u8 K)∧Rd w' rb tb tc ps (n+1) d)∧(QJ ks K=false→e = .returned (.int .u8 0)∧Rd w' rb tb tc ps n d)∧Kp rb w.heap.size w w':=by
 have hc:=fun q=>JA (w.drewN q) rb tb tc ps n d (h.drewN q) hn K hK
 obtain⟨c0,c1,c2,fz⟩:=h.cells
 have hl:=h.2.2.1
 have H:Hid (Rd w rb tb tc ps n d):=h
 have HC:Hid (∀ i (hi:i<ks.length),w.cell? ⟨kb,i,none⟩=some (.int .u8 ks[i].toNat)):=hcs
 clear h hK hcs
 go_enter Tryd.func69,Tryd.ntmps69
 go_wp2_with fail
 go_loopw [9] (fun i wr=>∃ (j q:Nat),j≤ks.length∧i = .int .i64 j∧wr=w.drewN q∧Hid (∀ t (ht:t<ks.length),t<j→((ks[t].toNat:Int) == K)=false)) (fun i _=>ks.length - (intOf i).toNat)
 case atStart=>exact⟨0,0,Nat.zero_le _,rfl,rfl,fun t _ ht=>by omega⟩
 case round=>
  obtain⟨j,q,hj,rfl,rfl,hN⟩:=hrel
  by_cases hlt:j<ks.length
  ·have hcj:=HC.out j hlt
   have hlt':(j:Int)<ks.length:=by omega
   by_cases hm:K=ks[j].toNat
   ·have tm:(K == (ks[j].toNat:Int))=true:=by rw[hm];simp
    have hhit:QJ ks K=true:=by
     unfold QJ;rw[List.any_eq_true];exact⟨ks[j],List.getElem_mem hlt,by rw[hm];simp⟩
    have HF:Hid (QJ ks K=true):=hhit
    have HM:Hid (K=ks[j].toNat):=hm
    clear hm hhit
    go_wp2_with (first | (go_at_call 32;refine (hc _).mono ?_;rintro e w1 ⟨rfl,q,rfl⟩))
    go_ret
    refine⟨fun _=>⟨?_,?_⟩,fun h=>?_,?_⟩
    ·show Ending.returned (Value.int IntKind.u8 _)=_
     rw[HM.out]
    ·exact (H.out.set1 (n+1)).below (below_drewN (Below.refl _ _) _)
    ·rw[HF.out] at h;cases h
    ·exact ((Kp.refl _ _ _).setRb _ _).drewN _
   ·have tm:(K == (ks[j].toNat:Int))=false:=beq_eq_false_iff_ne.2 hm
    have hN':Hid (∀ t (ht:t<ks.length),t<j+1→((ks[t].toNat:Int) == K)=false):=by
     intro t ht h1
     by_cases e:t=j
     ·subst e;exact beq_eq_false_iff_ne.2 (fun e=>hm e.symm)
     ·exact hN.out t ht (by omega)
    clear hm hN
    go_wp2_with (first | (go_at_call 32;refine (hc _).mono ?_;rintro e w1 ⟨rfl,q,rfl⟩))
    go_roundw
    case rel=>exact⟨j+1,_,by omega,by go_num,rfl,hN'⟩
    case measure=>simp[intOf];omega
  ·have hno:QJ ks K=false:=by
    unfold QJ
    rw[List.any_eq_false]
    intro c hc
    obtain⟨t,ht,rfl⟩:=List.getElem_of_mem hc
    rw[hN.out t ht (by omega)];simp
   have HF:Hid (QJ ks K=false):=hno
   clear hno hN
   go_wp2_with fail
   go_ret
   refine⟨fun h=>?_,fun _=>⟨rfl,?_⟩,?_⟩
   ·rw[HF.out] at h;cases h
   ·exact H.out.drewN _
   ·exact (Kp.refl _ _ _).drewN _
def zS (er p:Nat):Value:=.iface 54 (.agg #[.int .i64 er,.int .i64 p])
def Row (w:World) (A:Nat→Prop) (e:TypeId) (sz:Nat) (v:Value) (n:Nat) (xs:List Value):Prop:=w.ownsRow 0 e sz v n xs∧∀ g,v.ownBlock=some g→A g
theorem Row.mono {w:World} {A A':Nat→Prop} {e:TypeId} {sz:Nat} {v:Value} {n:Nat} {xs:List Value} (h:Row w A e sz v n xs) (hA:∀ g,g<w.heap.size→A g→A' g):Row w A' e sz v n xs:=
 ⟨h.1,fun g hg=>hA g (h.1.lt g hg).2 (h.2 g hg)⟩
theorem Z6 {w w':World} {base:Nat} {e:TypeId} {size:Nat} {v:Value} {n:Nat} {xs:List Value} (h:w.ownsRow base e size v n xs) (hb:∀ g,v.ownBlock=some g→w'.heap[g]? = w.heap[g]?):w'.ownsRow base e size v n xs:=by
 obtain⟨h1,h2⟩:=h
 refine⟨h1,?_⟩
 rcases h2 with h2 | ⟨g,cap,cur,hv,hg,hh,r⟩
 ·exact Or.inl h2
 ·refine Or.inr ⟨g,cap,cur,hv,hg,?_,r⟩
  rw[hb g (by rw[hv];rfl)];exact hh
theorem Row.kept {w w':World} {A:Nat→Prop} {e:TypeId} {sz:Nat} {v:Value} {n:Nat} {xs:List Value} (h:Row w A e sz v n xs) (hb:∀ g,g<w.heap.size→A g→w'.heap[g]? = w.heap[g]?):Row w' A e sz v n xs:=
 ⟨Z6 h.1 (fun g hg=>hb g (h.1.lt g hg).2 (h.2 g hg)),h.2⟩
def QM:List Thk.Term→List Value→List Value
 | .mk a _ b::s,v::vs=>.int .u8 a.toNat::v :: .int .u8 b.toNat::QM s vs
 | _,_=>[]
mutual
def zp (w:World) (A:Nat→Prop):Thk.zC→Value→Prop
  | .name b,v=>v = .iface 102 (.agg #[.string ⟨b.toArray⟩])∧b.length≤2000
  | .lit b,v=>v = .iface 156 (.agg #[.string ⟨b.toArray⟩])
  | .cls l,v=>∃ u,v = .iface 158 (.agg #[u])∧Qr w 0 u l
  | .any,v=>v = .iface 160 (.agg #[])
  | .group c,v=>∃ u us,v = .iface 135 (.agg #[u])∧Row w A 133 1 u c.length us∧zA w A c us
def Zk (w:World) (A:Nat→Prop):Thk.Term→Value→Prop
  | .mk _ p _,v=>zp w A p v
def zD (w:World) (A:Nat→Prop):List Thk.Term→List Value→Prop
  | [],vs=>vs=[]
  | t::s,vs=>∃ v vs',vs=v::vs'∧Zk w A t v∧zD w A s vs'
def zA (w:World) (A:Nat→Prop):List (List Thk.Term)→List Value→Prop
  | [],us=>us=[]
  | s::c,us=>∃ u us',us=u::us'∧(∃ vs,Row w A 100 3 u s.length (QM s vs)∧zD w A s vs)∧zA w A c us'
 end
def QX (w:World) (A:Nat→Prop) (s:Thk.Seq) (u:Value):Prop:=∃ vs,Row w A 100 3 u s.length (QM s vs)∧zD w A s vs
def Zt (w:World) (A:Nat→Prop) (c:Thk.Z5) (u:Value):Prop:=∃ us,Row w A 133 1 u c.length us∧zA w A c us
structure Sm (A:Nat→Prop) (w w':World):Prop where
 spans:∀ u l,Qr w 0 u l→Qr w' 0 u l
 blocks:∀ g,g<w.heap.size→A g→w'.heap[g]? = w.heap[g]?
mutual
theorem zp.kept {w w':World} {A:Nat→Prop} (h:Sm A w w'):∀ (p:Thk.zC) (v:Value),zp w A p v→zp w' A p v
  | .name _,_,hp=>by simp only[zp] at hp ⊢;exact hp
  | .lit _,_,hp=>by simp only[zp] at hp ⊢;exact hp
  | .cls _,_,hp=>by
    simp only[zp] at hp ⊢
    obtain⟨u,hv,hs⟩:=hp
    exact⟨u,hv,h.spans _ _ hs⟩
  | .any,_,hp=>by simp only[zp] at hp ⊢;exact hp
  | .group c,_,hp=>by
    simp only[zp] at hp ⊢
    obtain⟨u,us,hv,hr,hc⟩:=hp
    exact⟨u,us,hv,hr.kept h.blocks,zA.kept h c us hc⟩
theorem Zk.kept {w w':World} {A:Nat→Prop} (h:Sm A w w'):∀ (t:Thk.Term) (v:Value),Zk w A t v→Zk w' A t v
  | .mk _ p _,v,ht=>by simp only[Zk] at ht ⊢;exact zp.kept h p v ht
theorem zD.kept {w w':World} {A:Nat→Prop} (h:Sm A w w'):∀ (s:List Thk.Term) (vs:List Value),zD w A s vs→zD w' A s vs
  | [],_,hs=>by simp only[zD] at hs ⊢;exact hs
  | t::s,_,hs=>by
    simp only[zD] at hs ⊢
    obtain⟨v,vs',hv,ht,hs⟩:=hs
    exact⟨v,vs',hv,Zk.kept h t v ht,zD.kept h s vs' hs⟩
theorem zA.kept {w w':World} {A:Nat→Prop} (h:Sm A w w'):∀ (c:List (List Thk.Term)) (us:List Value),zA w A c us→zA w' A c us
  | [],_,hs=>by simp only[zA] at hs ⊢;exact hs
  | s::c,_,hs=>by
    simp only[zA] at hs ⊢
    obtain⟨u,us',hu,⟨vs,hr,ht⟩,hc⟩:=hs
    exact⟨u,us',hu,⟨vs,hr.kept h.blocks,zD.kept h s vs ht⟩,zA.kept h c us' hc⟩
 end
mutual
theorem zp.mono {w:World} {A A':Nat→Prop} (h:∀ g,g<w.heap.size→A g→A' g):∀ (p:Thk.zC) (v:Value),zp w A p v→zp w A' p v
  | .name _,_,hp=>by simp only[zp] at hp ⊢;exact hp
  | .lit _,_,hp=>by simp only[zp] at hp ⊢;exact hp
  | .cls _,_,hp=>by simp only[zp] at hp ⊢;exact hp
  | .any,_,hp=>by simp only[zp] at hp ⊢;exact hp
  | .group c,_,hp=>by
    simp only[zp] at hp ⊢
    obtain⟨u,us,hv,hr,hc⟩:=hp
    exact⟨u,us,hv,hr.mono h,zA.mono h c us hc⟩
theorem Zk.mono {w:World} {A A':Nat→Prop} (h:∀ g,g<w.heap.size→A g→A' g):∀ (t:Thk.Term) (v:Value),Zk w A t v→Zk w A' t v
  | .mk _ p _,v,ht=>by simp only[Zk] at ht ⊢;exact zp.mono h p v ht
theorem zD.mono {w:World} {A A':Nat→Prop} (h:∀ g,g<w.heap.size→A g→A' g):∀ (s:List Thk.Term) (vs:List Value),zD w A s vs→zD w A' s vs
  | [],_,hs=>by simp only[zD] at hs ⊢;exact hs
  | t::s,_,hs=>by
    simp only[zD] at hs ⊢
    obtain⟨v,vs',hv,ht,hs⟩:=hs
    exact⟨v,vs',hv,Zk.mono h t v ht,zD.mono h s vs' hs⟩
theorem zA.mono {w:World} {A A':Nat→Prop} (h:∀ g,g<w.heap.size→A g→A' g):∀ (c:List (List Thk.Term)) (us:List Value),zA w A c us→zA w A' c us
  | [],_,hs=>by simp only[zA] at hs ⊢;exact hs
  | s::c,_,hs=>by
    simp only[zA] at hs ⊢
    obtain⟨u,us',hu,⟨vs,hr,ht⟩,hc⟩:=hs
    exact⟨u,us',hu,⟨vs,hr.mono h,zD.mono h s vs ht⟩,zA.mono h c us' hc⟩
 end
theorem Zt.kept {w w':World} {A:Nat→Prop} (h:Sm A w w') {c:Thk.Z5} {u:Value} (hc:Zt w A c u):Zt w' A c u:=by
 obtain⟨us,hr,hs⟩:=hc
 exact⟨us,hr.kept h.blocks,zA.kept h c us hs⟩
theorem Zt.mono {w:World} {A A':Nat→Prop} (h:∀ g,g<w.heap.size→A g→A' g) {c:Thk.Z5} {u:Value} (hc:Zt w A c u):Zt w A' c u:=by
 obtain⟨us,hr,hs⟩:=hc
 exact⟨us,hr.mono h,zA.mono h c us hs⟩
theorem QX.kept {w w':World} {A:Nat→Prop} (h:Sm A w w') {c:Thk.Seq} {u:Value} (hc:QX w A c u):QX w' A c u:=by
 obtain⟨us,hr,hs⟩:=hc
 exact⟨us,hr.kept h.blocks,zD.kept h c us hs⟩
theorem QX.mono {w:World} {A A':Nat→Prop} (h:∀ g,g<w.heap.size→A g→A' g) {c:Thk.Seq} {u:Value} (hc:QX w A c u):QX w A' c u:=by
 obtain⟨us,hr,hs⟩:=hc
 exact⟨us,hr.mono h,zD.mono h c us hs⟩
theorem zj6 (s:List Thk.Term) (vs:List Value) (h:s.length=vs.length) (a b:UInt8) (p:Thk.zC) (v:Value) :
  QM (s++[.mk a p b]) (vs++[v])=QM s vs++[.int .u8 a.toNat,v,.int .u8 b.toNat]:=by
 induction s generalizing vs with
 | nil=>cases vs with
  | nil=>rfl
  | cons _ _=>simp at h
 | cons t s ih=>cases vs with
  | nil=>simp at h
  | cons u vs=>
   cases t with
   | mk a' p' b'=>
    simp only[List.cons_append,QM]
    rw[ih vs (by simpa using h)]
theorem zD.length {w:World} {A:Nat→Prop}:∀ {s:List Thk.Term} {vs:List Value},zD w A s vs→s.length=vs.length
 | [],_,h=>by simp only[zD] at h;subst h;rfl
 | t::s,_,h=>by
  simp only[zD] at h
  obtain⟨v,vs',rfl,_,hs⟩:=h
  simp[zD.length hs]
theorem zA.length {w:World} {A:Nat→Prop}:∀ {s:List (List Thk.Term)} {vs:List Value},zA w A s vs→s.length=vs.length
 | [],_,h=>by simp only[zA] at h;subst h;rfl
 | t::s,_,h=>by
  simp only[zA] at h
  obtain⟨v,vs',rfl,_,hs⟩:=h
  simp[zA.length hs]
theorem zD.snoc {w:World} {A:Nat→Prop} {t:Thk.Term} {v:Value} (ht:Zk w A t v):∀ {s:List Thk.Term} {vs:List Value},zD w A s vs→zD w A (s++[t]) (vs++[v])
 | [],_,h=>by simp only[zD] at h;subst h;simp[zD,ht]
 | t'::s,_,h=>by
  simp only[zD] at h
  obtain⟨v',vs',rfl,h1,hs⟩:=h
  simp only[List.cons_append,zD]
  exact⟨v',vs'++[v],rfl,h1,zD.snoc ht hs⟩
theorem zA.snoc {w:World} {A:Nat→Prop} {t:Thk.Seq} {v:Value} (ht:QX w A t v):∀ {s:List (List Thk.Term)} {vs:List Value},zA w A s vs→zA w A (s++[t]) (vs++[v])
 | [],_,h=>by
  simp only[zA] at h;subst h
  simp only[List.nil_append,zA]
  exact⟨v,[],rfl,ht,rfl⟩
 | t'::s,_,h=>by
  simp only[zA] at h
  obtain⟨v',vs',rfl,h1,hs⟩:=h
  simp only[List.cons_append,zA]
  exact⟨v',vs'++[v],rfl,h1,zA.snoc ht hs⟩
def U2 (rb tb tc:Nat) (ps:List (Thk.Tok × Value)) (d:Nat) (zero:Value) (er p:Nat) (e:Ending) (w':World):Prop:=
 e = .returned (.tuple #[zero,zS er p])∧∃ n',Rd w' rb tb tc ps n' d
def qz (w:World) (rb tb tc:Nat) (ps:List (Thk.Tok × Value)) (n d:Nat) (e:Ending) (w':World):Thk.Res Thk.zC→Prop
 | .ok p rest=>∃ n' v,rest=zu ps n'∧n<n'∧n'<ps.length∧e = .returned (.tuple #[v,.nilIface])∧zp w' (w.heap.size≤·) p v∧Rd w' rb tb tc ps n' d
 | .err er p=>U2 rb tb tc ps d .nilIface er p e w'
def K8 (w:World) (rb tb tc:Nat) (ps:List (Thk.Tok × Value)) (n d:Nat) (e:Ending) (w':World):Prop:=
 ∃ res,Thk.Qi d (zu ps n) res∧Kp rb w.heap.size w w'∧qz w rb tb tc ps n d e w' res
def zdq (w:World) (rb tb tc:Nat) (ps:List (Thk.Tok × Value)) (n d:Nat) (e:Ending) (w':World):Thk.Res Thk.Z5→Prop
 | .ok c rest=>∃ n' a l cp,rest=zu ps n'∧n≤n'∧n'<ps.length∧e = .returned (.tuple #[.slice a l cp,.nilIface])∧Zt w' (w.heap.size≤·) c (.slice a l cp)∧Rd w' rb tb tc ps n' d
 | .err er p=>U2 rb tb tc ps d (.slice none 0 0) er p e w'
def zdr (w:World) (rb tb tc:Nat) (ps:List (Thk.Tok × Value)) (n d:Nat) (e:Ending) (w':World):Prop:=
 ∃ res,Thk.Z8 d (zu ps n) res∧Kp rb w.heap.size w w'∧zdq w rb tb tc ps n d e w' res
def YJ (rb tb tc:Nat) (ps:List (Thk.Tok × Value)) (R:Nat):Prop:=
 ∀ (w:World) (n d:Nat),Rd w rb tb tc ps n d→n<ps.length→ps.length - n≤R→d≤6 →
  Calls Tryd.prog 54 #[.pointer (some ⟨rb,0,none⟩)] w fun e w'=>zdr w rb tb tc ps n d e w'
theorem za0 (bb rb:Nat) (u:FrameMode) (w:World) (d:Nat) (hc:w.cell? ⟨bb,0,none⟩=some (.pointer (some ⟨rb,0,none⟩))) (hr:w.cell? ⟨rb,2,none⟩=some (.int .i64 ↑(d+1))) (hz:w.frozen? ⟨rb,2,none⟩=false) (hdd:d≤6) :
  CallsD Tryd.prog 72 #[.pointer (some ⟨bb,0,none⟩)] u w fun e u' w'=>u'=u∧(e = .returned (.tuple #[])∧w'=w.setCell ⟨rb,2,none⟩ (.int .i64 d)):=by
 have hr':w.cell? ⟨rb,2,none⟩=some (.int .i64 (d+1)):=hr
 clear hr
 go_enter_d Tryd.func72,Tryd.ntmps72
 go_wp2
 go_end0
 exact⟨rfl,rfl⟩
theorem zf9 (w:World) (rb tb tc:Nat) (ps:List (Thk.Tok × Value)) (n:Nat) (h:Rd w rb tb tc ps n 6) (hn:n<ps.length) :
  Calls Tryd.prog 71 #[.pointer (some ⟨rb,0,none⟩)] w fun e w'=>e = .returned (.tuple #[.nilIface,zS 3 ps[n].1.place])∧Rd w' rb tb tc ps n 6∧Kp rb w.heap.size w w':=by
 have hmf:∀ (fn:Fn) (first cap:Array Value) (w:World),(Instr.makeFunc fn first cap).run Tryd.prog w = .ok (.func fn first cap) w:=fun _ _ _ _=>rfl
 obtain⟨c0,c1,c2,fz⟩:=h.cells
 have hrl:=h.lt
 have hB:Below w.heap.size w (w.alloc (.cells #[.pointer (some ⟨rb,0,none⟩)] 57)):=zc _ _
 have hre:=UU _ rb tb tc ps n 6 (h.below hB) hn 3
 have H:Hid (Rd w rb tb tc ps n 6):=h
 clear h hB
 go_enter_defers Tryd.func71,Tryd.ntmps71
 go_wp2_with (first | (go_at_call 53;refine hre.mono ?_;rintro e w1 ⟨rfl,q,rfl⟩))
 exact⟨_,results_tmp2 rfl _ _ _,rfl,(H.out.below (zc _ _)).drewN _,((Kp.refl _ _ _).alloc (Nat.le_refl _) _).drewN _⟩
abbrev Vr (rb:Nat):Obj:=.cells #[.pointer (some ⟨rb,0,none⟩)] 57
theorem JS {rb:Nat} {W w1:World} (hb:Kp rb W.heap.size W w1) {b:Nat} (h1:b<W.heap.size) (h2:b≠rb) (o:Nat):w1.cell? ⟨b,o,none⟩=W.cell? ⟨b,o,none⟩:=
 World.cell?_of_block (w:=W) (a:=⟨b,o,none⟩) (hb.block b h1 h2)
theorem KY {A:Nat→Prop} {rb:Nat} {w w':World} {cs:Array Value} {fr:Nat × Nat} (hr:w.heap[rb]? = some (.cells cs 61 fr)) (hk:Kp rb w.heap.size w w') (hA:∀ g,A g→g≠rb):Sm A w w':=
 ⟨fun _ _ h=>JT h hr (by decide) hk,fun g hg ha=>hk.block g hg (hA g ha)⟩
theorem zfD {k:Thk.TK} (hk:Qm k) (h:k≠.sign 41):zt k≠41:=by
 cases k with
 | sign c=>intro e;apply h;simp only[zt] at e;congr 1;apply UInt8.toNat_inj.1;rw[show (41:UInt8).toNat=41 from rfl];omega
 | _=>simp[zt]
theorem zf8 (w:World) (rb tb tc:Nat) (ps:List (Thk.Tok × Value)) (n d:Nat) (h:Rd w rb tb tc ps n d) (hg:QE ps) (hn:n<ps.length) (hdd:d≤6) (hk:ps[n].1.kind = .sign 40)
  (hC:YJ rb tb tc ps (ps.length - n - 1)) :
  Calls Tryd.prog 71 #[.pointer (some ⟨rb,0,none⟩)] w fun e w'=>K8 w rb tb tc ps n d e w':=by
 by_cases h6:d=6
 ·subst h6
  refine (zf9 w rb tb tc ps n h hn).mono ?_
  rintro e w' ⟨rfl,hr,hkp⟩
  exact⟨.err 3 ps[n].1.place,by rw[← Z0 hn];exact .deep (by rw[Z0 hn];exact hk),hkp,rfl,n,hr⟩
 have hn1:n+1<ps.length:=(hg n hn).2 (by rw[hk];rfl)
 have t6:((d:Int) == 6)=false:=beq_eq_false_iff_ne.2 (by omega)
 have hmf:∀ (fn:Fn) (first cap:Array Value) (w:World),(Instr.makeFunc fn first cap).run Tryd.prog w = .ok (.func fn first cap) w:=fun _ _ _ _=>rfl
 obtain⟨c0,c1,c2,fz⟩:=h.cells
 have hrl:=h.lt
 have hl:=h.2.2.1
 have hR1:Rd (((w.setCell ⟨rb,1,none⟩ (.int .i64 ((n:Int)+1))).setCell ⟨rb,2,none⟩ (.int .i64 ((d:Int)+1))).alloc (Vr rb)) rb tb tc ps (n+1) (d+1):=((h.set1 (n+1)).set2 (d+1)).below (zc _ _)
 have hch:=hC _ (n+1) (d+1) hR1 hn1 (by omega) (by omega)
 have hks:(Thk.hd (zu ps n)).kind = .sign 40:=by rw[Z0 hn];exact hk
 have hK1:Kp rb w.heap.size w (((w.setCell ⟨rb,1,none⟩ (.int .i64 ((n:Int)+1))).setCell ⟨rb,2,none⟩ (.int .i64 ((d:Int)+1))).alloc (Vr rb)):=(((Kp.refl _ _ _).setRb _ _).setRb _ _).alloc (by simp) _
 have hsz1:(((w.setCell ⟨rb,1,none⟩ (.int .i64 ((n:Int)+1))).setCell ⟨rb,2,none⟩ (.int .i64 ((d:Int)+1))).alloc (Vr rb)).heap.size=w.heap.size+1:=by simp
 have hbx:(((w.setCell ⟨rb,1,none⟩ (.int .i64 ((n:Int)+1))).setCell ⟨rb,2,none⟩ (.int .i64 ((d:Int)+1))).alloc (Vr rb)).cell? ⟨w.heap.size,0,none⟩=some (.pointer (some ⟨rb,0,none⟩)):=by
  rw[show w.heap.size=((w.setCell ⟨rb,1,none⟩ (.int .i64 ((n:Int)+1))).setCell ⟨rb,2,none⟩ (.int .i64 ((d:Int)+1))).heap.size from by simp,World.cell?_alloc_mark];rfl
 have HK1:=(show Hid _ from hK1)
 clear hK1
 clear hR1 h hC
 go_enter_defers Tryd.func71,Tryd.ntmps71
 go_wp2_with fail
 refine hch.mono ?_
 rintro e w2 ⟨res,hP,hKp,hE⟩
 have hbx2:w2.cell? ⟨w.heap.size,0,none⟩=some (.pointer (some ⟨rb,0,none⟩)):=by
  rw[JS hKp (by rw[hsz1];omega) (by omega)];exact hbx
 have hsz2:=hKp.size
 rw[hsz1] at hsz2
 have hK2:Kp rb w.heap.size w w2:=HK1.out.trans (hKp.mono (by rw[hsz1];omega))
 have HKp:=(show Hid _ from hKp)
 have HK2:=(show Hid _ from hK2)
 have HP:=(show Hid _ from hP)
 clear hKp hK2 hbx hch HK1 hP
 cases res with
 | err er p=>
  obtain⟨rfl,n',hR⟩:=hE
  obtain⟨r0,r1,r2,rf⟩:=hR.cells
  have H:Hid (Rd w2 rb tb tc ps n' (d+1)):=hR
  clear hR
  simp only[zS]
  go_wp2_with fail
  refine leaves_cons (f:=72) (args:=#[.pointer (some ⟨w.heap.size,0,none⟩)]) (by simp) (by simp[go_sem]) ?_
  refine (za0 w.heap.size rb .returning _ d hbx2 r2 (rf 2) hdd).mono ?_
  rintro e u' w'' ⟨rfl,rfl,rfl⟩
  refine⟨_,results_tmp2 rfl _ _ _,.err er p,?_,HK2.out.setRb _ _,rfl,n',H.out.set2 d⟩
  exact .inner hks h6 (by rw[Qy hn];exact HP.out)
 | ok c rest=>
  obtain⟨n',a,l,cp,rfl,hle,hn',rfl,hRC,hR⟩:=hE
  have hok':=(hg n' hn').1
  by_cases hcl:ps[n'].1.kind = .sign 41
  ·have hex:=qR w2 rb tb tc ps n' (d+1) hR hn' 41 (by rw[hcl];rfl)
   have hn1':n'+1<ps.length:=(hg n' hn').2 (by rw[hcl];rfl)
   obtain⟨a0,b0,e0⟩:=zl (hR.2.1.2 ps[n'] (List.getElem_mem hn'))
   have HRC:Hid (Zt w2 ((((w.setCell ⟨rb,1,none⟩ (.int .i64 ((n:Int)+1))).setCell ⟨rb,2,none⟩ (.int .i64 ((d:Int)+1))).alloc (Vr rb)).heap.size≤·) c (.slice a l cp)):=hRC
   have HR:Hid (Rd w2 rb tb tc ps n' (d+1)):=hR
   have hrl2:=hR.lt
   simp only[zP,e0] at hex
   clear hRC hR e0
   go_wp2_with fail
   refine hex.mono ?_
   rintro e w3 ⟨rfl,hR3,hK3⟩
   have hbx3:w3.cell? ⟨w.heap.size,0,none⟩=some (.pointer (some ⟨rb,0,none⟩)):=by
    rw[JS hK3 (by omega) (by omega)];exact hbx2
   have hsz3:=hK3.size
   obtain⟨r0,r1,r2,rf⟩:=hR3.cells
   have H:Hid (Rd w3 rb tb tc ps (n'+1) (d+1)):=hR3
   have HK3:Hid (Kp rb w2.heap.size w2 w3):=hK3
   clear hR3 hK3 hex
   go_wp2_with fail
   refine leaves_cons (f:=72) (args:=#[.pointer (some ⟨w.heap.size,0,none⟩)]) (by simp) (by simp[go_sem]) ?_
   refine (za0 w.heap.size rb .returning _ d ?_ ?_ ?_ hdd).mono ?_
   ·rw[World.cell?_alloc_lt _ _ _ (by simp only[];omega)];exact hbx3
   ·rw[World.cell?_alloc_lt _ _ _ (by simp only[];omega)];exact r2
   ·rw[World.frozen?_alloc_old _ _ _ (by simp only[];omega)];exact rf 2
   rintro e u' w'' ⟨rfl,rfl,rfl⟩
   refine⟨_,results_tmp2 rfl _ _ _,.ok (.group c) (zu ps (n'+1)),?_,?_,n'+1,_,rfl,by omega,hn1',rfl,?_,?_⟩
   ·rw[← Qy hn']
    exact .group hks h6 (by rw[Qy hn];exact HP.out) (by rw[Z0 hn'];exact hcl)
   ·exact ((HK2.out.trans (HK3.out.mono (by omega))).alloc (by omega) _).setRb _ _
   ·have hA:=HRC.out
    have hK4:Kp rb w2.heap.size w2 ((w3.alloc (.cells #[Value.int IntKind.u8 (zt ps[n'].1.kind),Value.int IntKind.i64 ↑ps[n'].1.place,Value.string ⟨List.toArray ps[n'].1.text⟩,Value.slice a0 ps[n'].1.spans.length b0] 84)).setCell ⟨rb,2,none⟩ (Value.int IntKind.i64 ↑d)):=(HK3.out.alloc (by omega) _).setRb _ _
    rw[hcl] at hK4
    have hC4:=(hA.kept (KY HR.out.1 hK4 (fun g hg=>by simp at hg;omega))).mono (A':=(w.heap.size≤·)) (fun g _ hg=>by simp at hg;omega)
    obtain⟨us,hRow,hSeqs⟩:=hC4
    simp only[zp]
    exact⟨_,us,rfl,hRow,hSeqs⟩
   ·exact (H.out.below (zc _ _)).set2 d
  ·have hex:=qQ w2 rb tb tc ps n' (d+1) hR hn' 41 (zfD hok' hcl)
   obtain⟨a0,b0,e0⟩:=zl (hR.2.1.2 ps[n'] (List.getElem_mem hn'))
   have hrl2:=hR.lt
   simp only[zP,e0] at hex
   clear hRC hR e0
   go_wp2_with fail
   refine hex.mono ?_
   rintro e w3 ⟨rfl,hR3,hK3⟩
   have hbx3:w3.cell? ⟨w.heap.size,0,none⟩=some (.pointer (some ⟨rb,0,none⟩)):=by
    rw[JS hK3 (by omega) (by omega)];exact hbx2
   have hsz3:=hK3.size
   obtain⟨r0,r1,r2,rf⟩:=hR3.cells
   have H:Hid (Rd w3 rb tb tc ps n' (d+1)):=hR3
   have HK3:Hid (Kp rb w2.heap.size w2 w3):=hK3
   clear hR3 hK3 hex
   go_wp2_with fail
   refine leaves_cons (f:=72) (args:=#[.pointer (some ⟨w.heap.size,0,none⟩)]) (by simp) (by simp[go_sem]) ?_
   refine (za0 w.heap.size rb .returning _ d ?_ ?_ ?_ hdd).mono ?_
   ·rw[World.cell?_alloc_lt _ _ _ (by simp only[];omega)];exact hbx3
   ·rw[World.cell?_alloc_lt _ _ _ (by simp only[];omega)];exact r2
   ·rw[World.frozen?_alloc_old _ _ _ (by simp only[];omega)];exact rf 2
   rintro e u' w'' ⟨rfl,rfl,rfl⟩
   refine⟨_,results_tmp2 rfl _ _ _,.err 2 ps[n'].1.place,?_,?_,rfl,n',?_⟩
   ·rw[← Z0 hn']
    exact .unclosed hks h6 (by rw[Qy hn];exact HP.out) (by rw[Z0 hn'];exact hcl)
   ·exact ((HK2.out.trans (HK3.out.mono (by omega))).alloc (by omega) _).setRb _ _
   ·exact (H.out.below (zc _ _)).set2 d
theorem zhf (w:World) (rb tb tc:Nat) (ps:List (Thk.Tok × Value)) (n d:Nat) (h:Rd w rb tb tc ps n d) (hg:QE ps) (hn:n<ps.length) (pc:Thk.zC) (hp:Thk.zU ps[n].1=some pc) :
  Calls Tryd.prog 70 #[.pointer (some ⟨rb,0,none⟩)] w fun e w'=>K8 w rb tb tc ps n d e w':=by
 have hPP:Thk.Qi d (zu ps n) (.ok pc (zu ps (n+1))):=by rw[← Qy hn];exact .plain (by rw[Z0 hn];exact hp)
 obtain⟨c0,c1,c2,fz⟩:=h.cells
 obtain⟨k0,k1,k2,k3⟩:=h.tok' n hn
 have hl:=h.2.2.1
 have hn':(n:Int)<(ps.length:Int):=by omega
 have hsp:=h.2.1.2 ps[n] (List.getElem_mem hn)
 obtain⟨a0,b0,e0⟩:=zl hsp
 have hrl:=h.lt
 have HTX:Hid (ps[n].1.text.length≤2000):=h.2.2.2 ps[n] (List.getElem_mem hn)
 have htl:tb<w.heap.size:=((h.2.1.1.lt tb rfl).2)
 have hnl:ps[n].1.kind.last=false:=by
  unfold Thk.zU at hp
  cases hk:ps[n].1.kind with
  | fin=>rw[hk] at hp;cases hp
  | bad=>rw[hk] at hp;cases hp
  | _=>rfl
 have hn1:n+1<ps.length:=(hg n hn).2 hnl
 rw[e0] at k3 hsp
 have H:Hid (Rd w rb tb tc ps n d):=h
 have HSP:Hid (Qr w 0 (.slice a0 ps[n].1.spans.length b0) ps[n].1.spans):=hsp
 have HPP:Hid (Thk.Qi d (zu ps n) (.ok pc (zu ps (n+1)))):=hPP
 have fin:∀ (w':World) (v:Value),Kp rb w.heap.size w w'→Rd w' rb tb tc ps (n+1) d→zp w' (w.heap.size≤·) pc v→K8 w rb tb tc ps n d (.returned (.tuple #[v,.nilIface])) w':=
  fun w' v h1 h2 h3=>⟨_,hPP,h1,n+1,v,rfl,by omega,hn1,rfl,h3,h2⟩
 have FIN:Hid _:=fin
 clear h hPP hsp fin
 unfold Thk.zU at hp
 cases hk:ps[n].1.kind with
 | name=>
  rw[hk] at hp k0
  simp only[Option.some.injEq] at hp
  subst hp
  simp only[zt] at k0
  go_enter Tryd.func70,Tryd.ntmps70
  go_wp2_with fail
  go_region
  go_wp2_with fail
  go_ret2
  refine FIN.out _ _ ?_ ?_ ?_
  ·exact ((((Kp.refl _ _ _).setRb _ _).alloc (by simp) _)).drew
  ·exact (H.out.set1 (n+1)).below (zc _ _).drew
  ·simp only[zp];exact⟨rfl,HTX.out⟩
 | lit=>
  rw[hk] at hp k0
  simp only[Option.some.injEq] at hp
  subst hp
  simp only[zt] at k0
  go_enter Tryd.func70,Tryd.ntmps70
  go_wp2_with fail
  go_region
  go_wp2_with fail
  go_ret2
  refine FIN.out _ _ ?_ ?_ ?_
  ·exact ((((Kp.refl _ _ _).setRb _ _).alloc (by simp) _)).drew
  ·exact (H.out.set1 (n+1)).below (zc _ _).drew
  ·simp only[zp];rfl
 | cls=>
  rw[hk] at hp k0
  simp only[Option.some.injEq] at hp
  subst hp
  simp only[zt] at k0
  go_enter Tryd.func70,Tryd.ntmps70
  go_wp2_with fail
  go_region
  go_wp2_with fail
  go_ret2
  have hK:Kp rb w.heap.size w ((((w.setCell ⟨rb,1,none⟩ (.int .i64 ((n:Int)+1))).alloc (.cells #[.int .u8 5,.int .i64 ↑ps[n].1.place,.string ⟨List.toArray ps[n].1.text⟩,.slice a0 ps[n].1.spans.length b0] 84))).drew):=((((Kp.refl _ _ _).setRb _ _).alloc (by simp) _)).drew
  refine FIN.out _ _ hK ?_ ?_
  ·exact (H.out.set1 (n+1)).below (zc _ _).drew
  ·simp only[zp]
   exact⟨_,rfl,JT HSP.out H.out.1 (by decide) hK⟩
 | sign c=>
  rw[hk] at hp k0
  simp only[] at hp
  split at hp
  ·rename_i hc
   subst hc
   simp only[Option.some.injEq] at hp
   subst hp
   simp only[zt] at k0
   simp at k0
   go_enter Tryd.func70,Tryd.ntmps70
   go_wp2_with fail
   go_region
   go_wp2_with fail
   go_ret2
   refine FIN.out _ _ ?_ ?_ ?_
   ·exact ((((Kp.refl _ _ _).setRb _ _).alloc (by simp) _)).drew
   ·exact (H.out.set1 (n+1)).below (zc _ _).drew
   ·simp only[zp];rfl
  ·cases hp
 | fin=>rw[hk] at hp;cases hp
 | bad=>rw[hk] at hp;cases hp
 | arrow=>rw[hk] at hp;cases hp
theorem zhe (w:World) (rb tb tc:Nat) (ps:List (Thk.Tok × Value)) (n d:Nat) (h:Rd w rb tb tc ps n d) (hg:QE ps) (hn:n<ps.length) (hd:d≤6) (hk:ps[n].1.kind = .sign 40)
  (hC:YJ rb tb tc ps (ps.length - n - 1)) :
  Calls Tryd.prog 70 #[.pointer (some ⟨rb,0,none⟩)] w fun e w'=>K8 w rb tb tc ps n d e w':=by
 obtain⟨c0,c1,c2,fz⟩:=h.cells
 obtain⟨k0,k1,k2,k3⟩:=h.tok' n hn
 have hl:=h.2.2.1
 have hn':(n:Int)<(ps.length:Int):=by omega
 obtain⟨a0,b0,e0⟩:=zl (h.2.1.2 ps[n] (List.getElem_mem hn))
 have hrl:=h.lt
 have htl:tb<w.heap.size:=((h.2.1.1.lt tb rfl).2)
 rw[e0] at k3
 rw[hk] at k0
 simp[zt] at k0
 have H:Hid (Rd w rb tb tc ps n d):=h
 have hgr:=fun w' (hR:Rd w' rb tb tc ps n d)=>zf8 w' rb tb tc ps n d hR hg hn hd hk hC
 clear h
 go_enter Tryd.func70,Tryd.ntmps70
 go_wp2_with fail
 go_region
 go_wp2_with fail
 have hB:Below w.heap.size w (w.alloc (.cells #[.int .u8 40,.int .i64 ↑ps[n].1.place,.string ⟨List.toArray ps[n].1.text⟩,.slice a0 ps[n].1.spans.length b0] 84)).drew:=(zc _ _).drew
 have hsz:(w.alloc (.cells #[.int .u8 40,.int .i64 ↑ps[n].1.place,.string ⟨List.toArray ps[n].1.text⟩,.slice a0 ps[n].1.spans.length b0] 84)).drew.heap.size=w.heap.size+1:=by simp
 refine (hgr _ (H.out.below hB)).mono ?_
 rintro e w2 ⟨res,hP,hKp,hE⟩
 rw[hsz] at hKp
 have hK2:Kp rb w.heap.size w w2:=(Kp.of hB).trans (hKp.mono (by omega))
 clear hgr hKp hB
 cases res with
 | err er p=>
  obtain⟨rfl,n',hR⟩:=hE
  simp only[zS]
  clear hC
  go_wp2_with fail
  go_ret2
  exact⟨_,hP,hK2,rfl,n',hR⟩
 | ok pc rest=>
  obtain⟨n',v,rfl,hlt,hn2,rfl,hRP,hR⟩:=hE
  have hRP2:zp w2 (w.heap.size≤·) pc v:=zp.mono (fun g _ hg=>by rw[hsz] at hg;omega) pc v hRP
  clear hC hRP
  go_wp2_with fail
  go_ret2
  exact⟨_,hP,hK2,n',v,rfl,hlt,hn2,rfl,hRP2,hR⟩
theorem zhh {t:Thk.Tok} (hk:Qm t.kind) (h:Thk.zU t=none) (h40:t.kind≠.sign 40) :
  (zt t.kind == 2)=false∧(zt t.kind == 4)=false∧(zt t.kind == 5)=false∧(zt t.kind == 46)=false∧(zt t.kind == 40)=false:=by
 unfold Thk.zU at h
 cases hkk:t.kind with
 | name=>rw[hkk] at h;cases h
 | lit=>rw[hkk] at h;cases h
 | cls=>rw[hkk] at h;cases h
 | sign c=>
  rw[hkk] at h hk h40
  simp only[] at h
  have h46:c≠46:=by intro e;rw[if_pos e] at h;cases h
  have hc40:c≠40:=by intro e;apply h40;rw[e]
  have hge:=KW hk
  refine⟨?_,?_,?_,?_,?_⟩<;>simp only[zt]<;>apply beq_eq_false_iff_ne.2
  ·omega
  ·omega
  ·omega
  ·intro e;apply h46;apply UInt8.toNat_inj.1;rw[show (46:UInt8).toNat=46 from rfl];omega
  ·intro e;apply hc40;apply UInt8.toNat_inj.1;rw[show (40:UInt8).toNat=40 from rfl];omega
 | _=>simp[zt]
theorem zhd (w:World) (rb tb tc:Nat) (ps:List (Thk.Tok × Value)) (n d:Nat) (h:Rd w rb tb tc ps n d) (hg:QE ps) (hn:n<ps.length) (hp:Thk.zU ps[n].1=none) (hk:ps[n].1.kind≠.sign 40) :
  Calls Tryd.prog 70 #[.pointer (some ⟨rb,0,none⟩)] w fun e w'=>K8 w rb tb tc ps n d e w':=by
 obtain⟨c0,c1,c2,fz⟩:=h.cells
 obtain⟨k0,k1,k2,k3⟩:=h.tok' n hn
 have hl:=h.2.2.1
 have hn':(n:Int)<(ps.length:Int):=by omega
 obtain⟨a0,b0,e0⟩:=zl (h.2.1.2 ps[n] (List.getElem_mem hn))
 have hrl:=h.lt
 have htl:tb<w.heap.size:=((h.2.1.1.lt tb rfl).2)
 rw[e0] at k3
 obtain⟨t1,t2,t3,t4,t5⟩:=zhh (hg n hn).1 hp hk
 have H:Hid (Rd w rb tb tc ps n d):=h
 have HPP:Hid (Thk.Qi d (zu ps n) (.err 2 ps[n].1.place)):=by
  show Thk.Qi d (zu ps n) (.err 2 ps[n].1.place)
  rw[← Z0 hn];exact .bad (by rw[Z0 hn];exact hp) (by rw[Z0 hn];exact hk)
 have hre:=fun w' (hR:Rd w' rb tb tc ps n d)=>UU w' rb tb tc ps n d hR hn 2
 clear h hp hk
 generalize zt ps[n].1.kind=K at *
 go_enter Tryd.func70,Tryd.ntmps70
 go_wp2_with fail
 go_region
 go_wp2_with fail
 have hB:Below w.heap.size w (w.alloc (.cells #[.int .u8 K,.int .i64 ↑ps[n].1.place,.string ⟨List.toArray ps[n].1.text⟩,.slice a0 ps[n].1.spans.length b0] 84)).drew:=(zc _ _).drew
 refine (hre _ (H.out.below hB)).mono ?_
 rintro e w2 ⟨rfl,q,rfl⟩
 clear hre
 go_wp2_with fail
 go_ret2
 exact⟨_,HPP.out,(Kp.of (zc _ _)).drewN _,rfl,n,(H.out.below (zc _ _)).drewN _⟩
theorem zhc (w:World) (rb tb tc:Nat) (ps:List (Thk.Tok × Value)) (n d:Nat) (h:Rd w rb tb tc ps n d) (hg:QE ps) (hn:n<ps.length) (hd:d≤6)
  (hC:YJ rb tb tc ps (ps.length - n - 1)) :
  Calls Tryd.prog 70 #[.pointer (some ⟨rb,0,none⟩)] w fun e w'=>K8 w rb tb tc ps n d e w':=by
 cases hp:Thk.zU ps[n].1 with
 | some pc=>exact zhf w rb tb tc ps n d h hg hn pc hp
 | none=>
  by_cases hk:ps[n].1.kind = .sign 40
  ·exact zhe w rb tb tc ps n d h hg hn hd hk hC
  ·exact zhd w rb tb tc ps n d h hg hn hp hk
theorem KN {k:Thk.TK} (hk:Qm k) {c:UInt8} (hc : 33≤c.toNat) (h:(c.toNat:Int)=zt k):k = .sign c:=by
 cases k with
 | sign b=>congr 1;apply UInt8.toNat_inj.1;simp only[zt] at h;omega
 | _=>simp only[zt] at h;omega
theorem zfg {ps:List (Thk.Tok × Value)} {n:Nat} (hn:n<ps.length) (hg:QE ps) :
  (QJ [38,33] (zt ps[n].1.kind)=true→∃ a:UInt8,zt ps[n].1.kind=a.toNat∧Thk.Z9 (zu ps n)=(a,zu ps (n+1))∧n+1<ps.length) ∧
  (QJ [38,33] (zt ps[n].1.kind)=false→Thk.Z9 (zu ps n)=(0,zu ps n)):=by
 obtain⟨hok,hnx⟩:=hg n hn
 constructor
 ·intro h
  simp only[QJ,List.any_cons,List.any_nil,Bool.or_false,Bool.or_eq_true,beq_iff_eq] at h
  rcases h with h | h
  ·have hk:=KN hok (by decide) h
   refine⟨38,h.symm,?_,hnx (by rw[hk];rfl)⟩
   unfold Thk.Z9;rw[Z0 hn,hk,Qy hn];rfl
  ·have hk:=KN hok (by decide) h
   refine⟨33,h.symm,?_,hnx (by rw[hk];rfl)⟩
   unfold Thk.Z9;rw[Z0 hn,hk,Qy hn];rfl
 ·intro h
  simp only[QJ,List.any_cons,List.any_nil,Bool.or_false,Bool.or_eq_false_iff,beq_eq_false_iff_ne] at h
  unfold Thk.Z9
  rw[Z0 hn]
  cases hk:ps[n].1.kind with
  | sign c=>
   rw[hk] at h
   simp only[zt] at h
   simp only[]
   rw[if_neg]
   rintro (rfl | rfl)
   ·exact h.1 rfl
   ·exact h.2 rfl
  | _=>rfl
theorem zfh {ps:List (Thk.Tok × Value)} {n:Nat} (hn:n<ps.length) (hg:QE ps) :
  (QJ [63,42,43] (zt ps[n].1.kind)=true→∃ a:UInt8,zt ps[n].1.kind=a.toNat∧Thk.Zg (zu ps n)=(a,zu ps (n+1))∧n+1<ps.length) ∧
  (QJ [63,42,43] (zt ps[n].1.kind)=false→Thk.Zg (zu ps n)=(0,zu ps n)):=by
 obtain⟨hok,hnx⟩:=hg n hn
 constructor
 ·intro h
  simp only[QJ,List.any_cons,List.any_nil,Bool.or_false,Bool.or_eq_true,beq_iff_eq] at h
  rcases h with h | h | h
  ·have hk:=KN hok (by decide) h
   refine⟨63,h.symm,?_,hnx (by rw[hk];rfl)⟩
   unfold Thk.Zg;rw[Z0 hn,hk,Qy hn];rfl
  ·have hk:=KN hok (by decide) h
   refine⟨42,h.symm,?_,hnx (by rw[hk];rfl)⟩
   unfold Thk.Zg;rw[Z0 hn,hk,Qy hn];rfl
  ·have hk:=KN hok (by decide) h
   refine⟨43,h.symm,?_,hnx (by rw[hk];rfl)⟩
   unfold Thk.Zg;rw[Z0 hn,hk,Qy hn];rfl
 ·intro h
  simp only[QJ,List.any_cons,List.any_nil,Bool.or_false,Bool.or_eq_false_iff,beq_eq_false_iff_ne] at h
  unfold Thk.Zg
  rw[Z0 hn]
  cases hk:ps[n].1.kind with
  | sign c=>
   rw[hk] at h
   simp only[zt] at h
   simp only[]
   rw[if_neg]
   rintro (rfl | rfl | rfl)
   ·exact h.1 rfl
   ·exact h.2.1 rfl
   ·exact h.2.2 rfl
  | _=>rfl
def zaS (f:List Thk.Tok→UInt8 × List Thk.Tok) (w:World) (rb tb tc:Nat) (ps:List (Thk.Tok × Value)) (n d:Nat) (e:Ending) (w':World):Prop:=
 ∃ (a:UInt8) (n1:Nat),e = .returned (.int .u8 a.toNat)∧f (zu ps n)=(a,zu ps n1)∧n≤n1∧n1<ps.length∧Rd w' rb tb tc ps n1 d∧Kp rb w.heap.size w w'
theorem ziH (w:World) (rb tb tc:Nat) (ps:List (Thk.Tok × Value)) (n d:Nat) (h:Rd w rb tb tc ps n d) (hg:QE ps) (hn:n<ps.length) (kb:Nat)
  (h0:w.cell? ⟨kb,0,none⟩=some (.int .u8 38)) (h1:w.cell? ⟨kb,1,none⟩=some (.int .u8 33)) :
  Calls Tryd.prog 69 #[.pointer (some ⟨rb,0,none⟩),.slice (some ⟨kb,0,none⟩) 2 2] w fun e w'=>zaS Thk.Z9 w rb tb tc ps n d e w':=by
 refine (zcJ w rb tb tc ps n d h hn _ rfl [38,33] kb (by decide) ?_).mono ?_
 ·intro i hi
  match i,hi with
  | 0,_=>exact h0
  | 1,_=>exact h1
 rintro e w' ⟨hy,hno,hk⟩
 obtain⟨ha,hb⟩:=zfg hn hg
 cases hx:QJ [38,33] (zt ps[n].1.kind) with
 | true=>
  obtain⟨a,e1,e2,e3⟩:=ha hx
  obtain⟨rfl,hR⟩:=hy hx
  exact⟨a,n+1,by rw[e1],e2,by omega,e3,hR,hk⟩
 | false=>
  obtain⟨rfl,hR⟩:=hno hx
  exact⟨0,n,rfl,hb hx,by omega,hn,hR,hk⟩
theorem ziI (w:World) (rb tb tc:Nat) (ps:List (Thk.Tok × Value)) (n d:Nat) (h:Rd w rb tb tc ps n d) (hg:QE ps) (hn:n<ps.length) (kb:Nat)
  (h0:w.cell? ⟨kb,0,none⟩=some (.int .u8 63)) (h1:w.cell? ⟨kb,1,none⟩=some (.int .u8 42)) (h2:w.cell? ⟨kb,2,none⟩=some (.int .u8 43)) :
  Calls Tryd.prog 69 #[.pointer (some ⟨rb,0,none⟩),.slice (some ⟨kb,0,none⟩) 3 3] w fun e w'=>zaS Thk.Zg w rb tb tc ps n d e w':=by
 refine (zcJ w rb tb tc ps n d h hn _ rfl [63,42,43] kb (by decide) ?_).mono ?_
 ·intro i hi
  match i,hi with
  | 0,_=>exact h0
  | 1,_=>exact h1
  | 2,_=>exact h2
 rintro e w' ⟨hy,hno,hk⟩
 obtain⟨ha,hb⟩:=zfh hn hg
 cases hx:QJ [63,42,43] (zt ps[n].1.kind) with
 | true=>
  obtain⟨a,e1,e2,e3⟩:=ha hx
  obtain⟨rfl,hR⟩:=hy hx
  exact⟨a,n+1,by rw[e1],e2,by omega,e3,hR,hk⟩
 | false=>
  obtain⟨rfl,hR⟩:=hno hx
  exact⟨0,n,rfl,hb hx,by omega,hn,hR,hk⟩
abbrev zaE:Value:=.agg #[.int .u8 0,.nilIface,.int .u8 0]
def zdG (w:World) (rb tb tc:Nat) (ps:List (Thk.Tok × Value)) (n d:Nat) (e:Ending) (w':World):Thk.Res Thk.Term→Prop
 | .ok (.mk a p b) rest=>∃ n' v,rest=zu ps n'∧n<n'∧n'<ps.length∧e = .returned (.tuple #[.agg #[.int .u8 a.toNat,v,.int .u8 b.toNat],.nilIface])∧zp w' (w.heap.size≤·) p v∧Rd w' rb tb tc ps n' d
 | .err er p=>U2 rb tb tc ps d zaE er p e w'
def zdH (w:World) (rb tb tc:Nat) (ps:List (Thk.Tok × Value)) (n d:Nat) (e:Ending) (w':World):Prop:=
 ∃ res,Thk.QF d (zu ps n) res∧Kp rb w.heap.size w w'∧zdG w rb tb tc ps n d e w' res
theorem zp.oneCell {w:World} {A:Nat→Prop} {p:Thk.zC} {v:Value} (h:zp w A p v):∃ t x,v = .iface t x:=by
 cases p<;>simp only[zp] at h
 ·exact⟨_,_,h.1⟩
 ·exact⟨_,_,h⟩
 ·obtain⟨_,h,_⟩:=h;exact⟨_,_,h⟩
 ·exact⟨_,_,h⟩
 ·obtain⟨_,_,h,_⟩:=h;exact⟨_,_,h⟩
theorem VL {w w':World} {base b:Nat} {e e':TypeId} {size:Nat} {v:Value} {n:Nat} {xs:List Value} {cs:Array Value} {fr:Nat × Nat} (h:w.ownsRow base e size v n xs)
  (hb:∀ g,g≠b→g<w.heap.size→w'.heap[g]? = w.heap[g]?) (ht:w.heap[b]? = some (.cells cs e' fr)) (he:e≠e'):w'.ownsRow base e size v n xs:=by
 refine Z6 h (fun g hg=>hb g ?_ (h.lt g hg).2)
 intro e1
 subst e1
 rcases h.2 with ⟨rfl,_⟩ | ⟨g',cap,cur,rfl,_,hc,_⟩
 ·simp[Value.ownBlock] at hg
 ·simp[Value.ownBlock] at hg
  subst hg
  rw[hc] at ht
  simp at ht
  exact he ht.2.1
theorem Rd.other {w w':World} {rb tb tc b:Nat} {ps:List (Thk.Tok × Value)} {n d:Nat} {cs:Array Value} {fr:Nat × Nat} {e':TypeId} (h:Rd w rb tb tc ps n d)
  (hb:∀ g,g≠b→g<w.heap.size→w'.heap[g]? = w.heap[g]?) (ht:w.heap[b]? = some (.cells cs e' fr)) (h1 : 61≠e') (h2 : 84≠e') (h3 : 144≠e'):Rd w' rb tb tc ps n d:=by
 refine⟨?_,⟨VL h.2.1.1 hb ht h2,fun p hp=>VL (h.2.1.2 p hp) hb ht h3⟩,h.2.2⟩
 rw[hb rb ?_ h.lt]
 ·exact h.1
 ·intro e;subst e
  have:=h.1
  rw[ht] at this
  simp at this
  exact h1 this.2.1.symm
theorem zk (w:World) (o:Obj):(w.alloc o).heap[w.heap.size]? = some o:=by
 show (w.heap.push o)[w.heap.size]? = _
 simp
theorem zm (w:World) (o:Obj) {b:Nat} (h:b<w.heap.size):(w.alloc o).heap[b]? = w.heap[b]? := Below.heap_alloc w o b h
abbrev Yp:Obj:=.cells #[.int .u8 0,.nilIface,.int .u8 0] 100
abbrev Ub:Obj:=.cells #[.int .u8 38,.int .u8 33] 81
abbrev Uj:Obj:=.cells #[.int .u8 63,.int .u8 42,.int .u8 43] 81
theorem qz.form {w:World} {rb tb tc:Nat} {ps:List (Thk.Tok × Value)} {n d:Nat} {e:Ending} {w':World} {pc:Thk.zC} {rest:List Thk.Tok} (h:qz w rb tb tc ps n d e w' (.ok pc rest)) :
  ∃ n' t x,rest=zu ps n'∧n<n'∧n'<ps.length∧e = .returned (.tuple #[.iface t x,.nilIface])∧zp w' (w.heap.size≤·) pc (.iface t x)∧Rd w' rb tb tc ps n' d:=by
 obtain⟨n',v,h1,h2,h3,h4,h5,h6⟩:=h
 obtain⟨t,x,rfl⟩:=zp.oneCell h5
 exact⟨n',t,x,h1,h2,h3,h4,h5,h6⟩
theorem zj7 (w:World) (rb tb tc:Nat) (ps:List (Thk.Tok × Value)) (n d:Nat) (h:Rd w rb tb tc ps n d) (hg:QE ps) (hn:n<ps.length) (hd:d≤6)
  (R:Nat) (hR:ps.length - n≤R) (hC:∀ R',R'<R→YJ rb tb tc ps R') :
  Calls Tryd.prog 67 #[.pointer (some ⟨rb,0,none⟩)] w fun e w'=>zdH w rb tb tc ps n d e w':=by
 have hrl:=h.lt
 have hB1:Below w.heap.size w ((w.alloc Yp).alloc Ub):=(zc _ _).alloc (by simp) _
 have hsg:=ziH _ rb tb tc ps n d (h.below hB1) hg hn (w.heap.size+1) (by simp) (by simp)
 have HB1:Hid (Below w.heap.size w ((w.alloc Yp).alloc Ub)):=hB1
 have hsz1:((w.alloc Yp).alloc Ub).heap.size=w.heap.size+2:=by simp
 have hrc1:((w.alloc Yp).alloc Ub).heap[w.heap.size]? = some Yp:=by
  rw[zm _ _ (by simp)];exact zk _ _
 have hpc:∀ w' n1,Rd w' rb tb tc ps n1 d→n≤n1→n1<ps.length→Calls Tryd.prog 70 #[.pointer (some ⟨rb,0,none⟩)] w' fun e w''=>K8 w' rb tb tc ps n1 d e w'':=
  fun w' n1 hr h1 h2=>zhc w' rb tb tc ps n1 d hr hg h2 hd (hC _ (by omega))
 clear h hB1 hC
 go_enter Tryd.func67,Tryd.ntmps67
 go_wp2_with fail
 refine hsg.mono ?_
 rintro e w2 ⟨a,n1,rfl,ha,hle1,hn1,hR2,hK2⟩
 have hrc2:w2.heap[w.heap.size]? = some Yp:=by rw[hK2.block _ (by rw[hsz1];omega) (by omega)];exact hrc1
 have hsz2:=hK2.size
 rw[hsz1] at hsz2
 have hKw2:Kp rb w.heap.size w w2:=(Kp.of HB1.out).trans (hK2.mono (by rw[hsz1];omega))
 have hp2:=hpc w2 n1 hR2 hle1 hn1
 have HR2:Hid (Rd w2 rb tb tc ps n1 d):=hR2
 have HKw2:Hid (Kp rb w.heap.size w w2):=hKw2
 have HA:Hid (Thk.Z9 (zu ps n)=(a,zu ps n1)):=ha
 clear hK2 hrc1 hsg hpc HB1 hR2 hKw2 ha
 go_wp2_with fail
 refine hp2.mono ?_
 rintro e w3 ⟨res,hP,hK3,hE⟩
 have hrc3:w3.heap[w.heap.size]? = some Yp:=by rw[hK3.block _ (by omega) (by omega)];exact hrc2
 have hsz3:=hK3.size
 have hKw3:Kp rb w.heap.size w w3:=HKw2.out.trans (hK3.mono (by omega))
 clear hp2 hrc2 hK3
 have q3:=z8 hrc3
 have f3:=zi hrc3
 have hlt3:w.heap.size<w3.heap.size:=by omega
 have HP:Hid (Thk.Qi d (zu ps n1) res):=hP
 have HK3:Hid (Kp rb w.heap.size w w3):=hKw3
 have HRC3:Hid (w3.heap[w.heap.size]? = some Yp):=hrc3
 clear hP hKw3 hrc3
 cases res with
 | err er p=>
  obtain⟨rfl,n',hR⟩:=hE
  simp only[zS]
  have H:Hid (Rd w3 rb tb tc ps n' d):=hR
  clear hR
  go_wp2_with fail
  refine bodyPost_ret (v:=.tuple #[zaE,zS er p]) (by simp[results,Tryd.results67,go_sem,zS,q3]) rfl ?_
  refine⟨.err er p,.err (by rw[HA.out];exact HP.out),((HK3.out.setCell (Nat.le_refl _) _).setCell (Nat.le_refl _) _).setCell (Nat.le_refl _) _,rfl,n',?_⟩
  refine H.out.other (b:=w.heap.size) (fun g hg _=>?_) HRC3.out (by decide) (by decide) (by decide)
  rw[Below.heap_setCell _ _ _ _ hg,Below.heap_setCell _ _ _ _ hg,Below.heap_setCell _ _ _ _ hg]
 | ok pc rest=>
  obtain⟨n',t,x,rfl,hlt,hn2,rfl,hRP,hR⟩:=hE.form
  clear hE
  have hB4:Below w3.heap.size w3 (w3.alloc Uj):=zc _ _
  have hsz4:(w3.alloc Uj).heap.size=w3.heap.size+1:=by simp
  have hsg:=ziI (w3.alloc Uj) rb tb tc ps n' d (hR.below hB4) hg hn2 w3.heap.size (by simp) (by simp) (by simp)
  have HRP:Hid (zp w3 (w2.heap.size≤·) pc (.iface t x)):=hRP
  have H3:Hid (Rd w3 rb tb tc ps n' d):=hR
  clear hRP hR
  go_wp2_with fail
  refine hsg.mono ?_
  rintro e w4 ⟨b,n4,rfl,hb,hle4,hn4,hR4,hK4⟩
  rw[hsz4] at hK4
  have hrc4:w4.heap[w.heap.size]? = some Yp:=by
   rw[hK4.block _ (by omega) (by omega),zm _ _ hlt3];exact HRC3.out
  have hsz5:=hK4.size
  rw[hsz4] at hsz5
  have hKw4:Kp rb w.heap.size w w4:=(HK3.out.alloc (by omega) Uj).trans (hK4.mono (by omega))
  have q4:=z8 hrc4
  have f4:=zi hrc4
  have hlt4:w.heap.size<w4.heap.size:=by omega
  have HK34:Hid (Kp rb w3.heap.size w3 w4):=(Kp.of hB4).trans (hK4.mono (by omega))
  have HB:Hid (Thk.Zg (zu ps n')=(b,zu ps n4)):=hb
  have H4:Hid (Rd w4 rb tb tc ps n4 d):=hR4
  have HKw4:Hid (Kp rb w.heap.size w w4):=hKw4
  have HRC4:Hid (w4.heap[w.heap.size]? = some Yp):=hrc4
  clear hb hR4 hKw4 hrc4 hsg hB4 hK4 q3 f3
  go_wp2_with fail
  refine bodyPost_ret (v:=.tuple #[.agg #[.int .u8 a.toNat,.iface t x,.int .u8 b.toNat],.nilIface]) (by simp[results,Tryd.results67,go_sem,q4]) rfl ?_
  have hot:∀ g,g≠w.heap.size→g<w4.heap.size→(((w4.setCell ⟨w.heap.size,0,none⟩ (.int .u8 a.toNat)).setCell ⟨w.heap.size,1,none⟩ (.iface t x)).setCell ⟨w.heap.size,2,none⟩ (.int .u8 b.toNat)).heap[g]? = w4.heap[g]? := by
   intro g hg _
   rw[Below.heap_setCell _ _ _ _ hg,Below.heap_setCell _ _ _ _ hg,Below.heap_setCell _ _ _ _ hg]
  have hPT:Thk.QF d (zu ps n) (.ok (.mk a pc b) (zu ps n4)):=by
   have:=Thk.QF.ok (d:=d) (ts:=zu ps n) (p:=pc) (rest:=zu ps n') (by rw[HA.out];exact HP.out)
   rw[HA.out,HB.out] at this
   exact this
  refine⟨_,hPT,((HKw4.out.setCell (Nat.le_refl _) _).setCell (Nat.le_refl _) _).setCell (Nat.le_refl _) _,n4,_,rfl,by omega,hn4,rfl,?_,?_⟩
  ·have h34:=zp.kept (KY H3.out.1 HK34.out (fun g hg=>by omega)) pc _ HRP.out
   have hs:Sm (w2.heap.size≤·) w4 _:=⟨fun u l hl=>VL hl hot HRC4.out (by decide),fun g hg ha=>hot g (by omega) hg⟩
   exact zp.mono (fun g _ hg=>by omega) pc _ (zp.kept hs pc _ h34)
  ·exact H4.out.other (b:=w.heap.size) hot HRC4.out (by decide) (by decide) (by decide)
theorem Zr {w:World} {base:Nat} {e:TypeId} {sz:Nat} {v:Value} {n:Nat} {xs:List Value} (h:w.ownsRow base e sz v n xs) {g:Nat} (hg:v.ownBlock=some g):∃ cur,w.heap[g]? = some (.cells cur e (0,0)):=by
 rcases h.2 with ⟨rfl,_⟩ | ⟨g',cap,cur,rfl,_,hc,_⟩
 ·simp[Value.ownBlock] at hg
 ·simp[Value.ownBlock] at hg;subst hg;exact⟨cur,hc⟩
theorem zah {w w':World} {b0 base:Nat} {e0 e:TypeId} {sz0 sz:Nat} {u v:Value} {n0 n:Nat} {xs0 xs:List Value} (h:w.ownsRow b0 e0 sz0 u n0 xs0) (hv:w.ownsRow base e sz v n xs)
  (hb:∀ g,some g≠v.ownBlock→g<w.heap.size→w'.heap[g]? = w.heap[g]?) (he:e0≠e):w'.ownsRow b0 e0 sz0 u n0 xs0:=by
 refine Z6 h (fun g hg=>hb g ?_ (h.lt g hg).2)
 intro e1
 obtain⟨c1,h1⟩:=Zr h hg
 obtain⟨c2,h2⟩:=Zr hv e1.symm
 rw[h1] at h2
 simp at h2
 exact he h2.2
theorem Rd.but {w w':World} {rb tb tc base:Nat} {ps:List (Thk.Tok × Value)} {k d:Nat} {e:TypeId} {sz:Nat} {v:Value} {n:Nat} {xs:List Value} (h:Rd w rb tb tc ps k d) (hv:w.ownsRow base e sz v n xs)
  (hb:∀ g,some g≠v.ownBlock→g<w.heap.size→w'.heap[g]? = w.heap[g]?) (h1 : 61≠e) (h2 : 84≠e) (h3 : 144≠e):Rd w' rb tb tc ps k d:=by
 refine⟨?_,⟨zah h.2.1.1 hv hb h2,fun p hp=>zah (h.2.1.2 p hp) hv hb h3⟩,h.2.2⟩
 rw[hb rb ?_ h.lt]
 ·exact h.1
 ·intro e1
  obtain⟨c2,h2⟩:=Zr hv e1.symm
  have:=h.1
  rw[h2] at this
  simp at this
  exact h1 this.2.symm
theorem KX {w w':World} {base:Nat} {e:TypeId} {sz:Nat} {v:Value} {n:Nat} {xs:List Value} (hv:w.ownsRow base e sz v n xs)
  (hb:∀ g,some g≠v.ownBlock→g<w.heap.size→w'.heap[g]? = w.heap[g]?) (h3 : 144≠e) {A:Nat→Prop} (hA:∀ g,A g→some g≠v.ownBlock):Sm A w w':=
 ⟨fun _ _ h=>zah h hv hb h3,fun g hg ha=>hb g (hA g ha) hg⟩
theorem zbF {w1 w5:World} {O1 O2:Obj} {row:Option Nat} (hg:((w1.alloc O1).alloc O2).grownBy w5 row):∀ g,some g≠row→g<w1.heap.size→w5.heap[g]? = w1.heap[g]? := by
 intro g h1 h2
 rw[hg.block g (by simp;omega) h1,zm _ _ (by simp;omega),zm _ _ h2]
theorem zfa {w1 w5:World} {O1:Obj} {row:Option Nat} (hg:(w1.alloc O1).grownBy w5 row):∀ g,some g≠row→g<w1.heap.size→w5.heap[g]? = w1.heap[g]? := by
 intro g h1 h2
 rw[hg.block g (by simp;omega) h1,zm _ _ h2]
def US (s:Thk.Seq):Thk.Res Thk.Seq→Thk.Res Thk.Seq:=Thk.Res.map (s ++ ·)
def zdD (w:World) (rb tb tc:Nat) (ps:List (Thk.Tok × Value)) (n d:Nat) (e:Ending) (w':World):Thk.Res Thk.Seq→Prop
 | .ok s rest=>∃ n' a l cp,rest=zu ps n'∧n≤n'∧n'<ps.length∧e = .returned (.tuple #[.slice a l cp,.nilIface])∧QX w' (w.heap.size≤·) s (.slice a l cp)∧Rd w' rb tb tc ps n' d
 | .err er p=>U2 rb tb tc ps d (.slice none 0 0) er p e w'
def zdE (w:World) (rb tb tc:Nat) (ps:List (Thk.Tok × Value)) (n d:Nat) (e:Ending) (w':World):Prop:=
 ∃ res,Thk.ZW d (zu ps n) res∧Kp rb w.heap.size w w'∧zdD w rb tb tc ps n d e w' res
structure Vc (w:World) (rb tb tc:Nat) (ps:List (Thk.Tok × Value)) (n d k:Nat) (s:Thk.Seq) (vs:List Value) (v:Value) (wr:World):Prop where
 le:n≤k
 lt:k<ps.length
 len:s.length≤k - n
 own:wr.ownsRow w.heap.size 100 3 v s.length (QM s vs)
 terms:zD wr (fun g=>w.heap.size≤g∧some g≠v.ownBlock) s vs
 rd:Rd wr rb tb tc ps k d
 kp:Kp rb w.heap.size w wr
 goes:∀ r,Thk.ZW d (zu ps k) r→Thk.ZW d (zu ps n) (US s r)
theorem Vc.next {w:World} {rb tb tc:Nat} {ps:List (Thk.Tok × Value)} {n d k:Nat} {s:Thk.Seq} {vs:List Value} {v:Value} {wr:World} (h:Vc w rb tb tc ps n d k s vs v wr) (hrl:rb<w.heap.size)
  {a b:UInt8} {pc:Thk.zC} {x:Value} {k':Nat} {w1 w5:World} {v':Value} {O1 O2:Obj} (hbg:Thk.zX d (zu ps k)=true) (hT:Thk.QF d (zu ps k) (.ok (.mk a pc b) (zu ps k'))) (hk:k<k') (hk':k'<ps.length)
  (hK:Kp rb wr.heap.size wr w1) (hP:zp w1 (wr.heap.size≤·) pc x) (hR:Rd w1 rb tb tc ps k' d)
  (ho:w5.ownsRow w.heap.size 100 3 v' (s.length+1) (QM s vs++[.int .u8 a.toNat,x,.int .u8 b.toNat])) (hg:((w1.alloc O1).alloc O2).grownBy w5 v.ownBlock)
  (hat:v'.ownBlock=v.ownBlock∨v'.ownBlock=some (w1.heap.size+1+1)) :
  Vc w rb tb tc ps n d k' (s++[.mk a pc b]) (vs++[x]) v' w5:=by
 have hsz:=hK.size
 have hwr:=h.kp.size
 have hown1:w1.ownsRow w.heap.size 100 3 v s.length (QM s vs):=JT h.own h.rd.1 (by decide) hK
 have hbl:=zbF hg
 have hgs:=hg.size
 simp at hgs
 have hvb:∀ g,v.ownBlock=some g→g<wr.heap.size:=fun g hg=>(h.own.lt g hg).2
 have hA:∀ g,g<w1.heap.size→w.heap.size≤g→some g≠v.ownBlock→(w.heap.size≤g∧some g≠v'.ownBlock):=by
  intro g h1 h2 h3
  refine⟨h2,?_⟩
  rcases hat with e | e<;>rw[e]
  ·exact h3
  ·simp;omega
 refine⟨by have:=h.le;omega,hk',by have:=h.len;have:=h.le;simp;omega,?_,?_,?_,?_,?_⟩
 ·rw[zj6 _ _ (zD.length h.terms)];simpa using ho
 ·refine zD.snoc ?_ ?_
  ·simp only[Zk]
   have p1:zp w1 (fun g=>wr.heap.size≤g∧g<w1.heap.size) pc x:=zp.mono (fun g h1 h2=>⟨h2,h1⟩) pc x hP
   have p2:zp w5 (fun g=>wr.heap.size≤g∧g<w1.heap.size) pc x:=zp.kept (KX hown1 hbl (by decide) (fun g hg e=>by have:=hvb g e.symm;omega)) pc x p1
   exact zp.mono (fun g _ hg=>hA g hg.2 (by omega) (fun e=>by have:=hvb g e.symm;omega)) pc x p2
  ·have p0:=zD.kept (KY (A:=fun g=>w.heap.size≤g∧some g≠v.ownBlock) h.rd.1 hK (fun g hg=>by omega)) s vs h.terms
   have p1:zD w1 (fun g=>(w.heap.size≤g∧some g≠v.ownBlock)∧g<w1.heap.size) s vs:=zD.mono (fun g h1 h2=>⟨h2,h1⟩) s vs p0
   have p2:zD w5 (fun g=>(w.heap.size≤g∧some g≠v.ownBlock)∧g<w1.heap.size) s vs:=zD.kept (KX hown1 hbl (by decide) (fun g hg=>hg.1.2)) s vs p1
   exact zD.mono (fun g _ hg=>hA g hg.2 hg.1.1 hg.1.2) s vs p2
 ·exact hR.but hown1 hbl (by decide) (by decide) (by decide)
 ·exact ((((h.kp.trans (hK.mono hwr))).alloc (by omega) O1).alloc (by simp;omega) O2).grown hg (by simp;omega) (fun g hg'=>(h.own.lt g hg').1)
 ·intro r hr
  cases r with
  | ok s' rest=>exact (by simpa [US,Thk.Res.map] using h.goes _ (.cons hbg hT hr))
  | err e p=>exact (by simpa [US,Thk.Res.map] using h.goes _ (.later hbg hT hr))
theorem zee (w:World) (x y z:Value) (t:TypeId):∀ j q,[x,y,z][j]? = some q→(w.alloc (.cells #[x,y,z] t)).cell? ((⟨w.heap.size,0,none⟩:Addr).add j)=some q:=by
 intro j q hj
 match j,hj with
 | 0,hj=>simp at hj;subst hj;simp[Addr.add]
 | 1,hj=>simp at hj;subst hj;simp[Addr.add]
 | 2,hj=>simp at hj;subst hj;simp[Addr.add]
theorem Tryd.infoTerm:(Tryd.prog.info? 100).map (fun i=>(i.zero,i.size,i.bytes))=some (some (.agg #[.int .u8 0,.nilIface,.int .u8 0]),3,32):=by kernel_rfl
theorem ziD (w:World) (rb tb tc:Nat) (ps:List (Thk.Tok × Value)) (n d:Nat) (h:Rd w rb tb tc ps n d) (hg:QE ps) (hn:n<ps.length) (hd:d≤6)
  (R:Nat) (hR:ps.length - n≤R) (hC:∀ R',R'<R→YJ rb tb tc ps R') :
  Calls Tryd.prog 63 #[.pointer (some ⟨rb,0,none⟩)] w fun e w'=>zdE w rb tb tc ps n d e w':=by
 obtain⟨i0,hi,hz0,hz1,hz2⟩:=info_parts Tryd.infoTerm
 have hrl:=h.lt
 have hl:=h.2.2.1
 have hbt:=fun w' k (hr:Rd w' rb tb tc ps k d) (hk:k<ps.length)=>zdU w' rb tb tc ps k d hr hg hk hd
 have htm:=fun w' k (hr:Rd w' rb tb tc ps k d) (hk:k<ps.length) (hnk:n≤k)=>zj7 w' rb tb tc ps k d hr hg hk hd R (by omega) hC
 have H:Hid (Rd w rb tb tc ps n d):=h
 clear h hC
 go_enter Tryd.func63,Tryd.ntmps63
 go_wp2_with fail
 go_loopg [4] (ps.length - n) (fun g v wr=>∃ k s vs,g=ps.length - k∧Vc w rb tb tc ps n d k s vs v wr)
 case atStart=>
  refine⟨n,[],[],rfl,Nat.le_refl _,hn,by simp,World.ownsRow_nil _ _ _ _,by simp[zD],H.out,Kp.refl _ _ _,?_⟩
  intro r hr;cases r<;>exact hr
 case round=>
  obtain⟨k,s,vs,rfl,hS⟩:=hrel
  have hb:=hbt wr k hS.rd hS.lt
  have hkl:=hS.lt
  have hnk:=hS.le
  have hsl:=hS.len
  have hwr:=hS.kp.size
  have HS:Hid (Vc w rb tb tc ps n d k s vs u4 wr):=hS
  have hown:=hS.own
  obtain⟨a0,c0,hv⟩:=zl hown
  subst hv
  clear hS hbt
  cases hbg:Thk.zX d (zu ps k) with
  | false=>
   rw[hbg] at hb
   have HBG:Hid (Thk.zX d (zu ps k)=false):=hbg
   clear hbg htm hown
   go_wp2_with (first | (go_at_call 66;refine hb.mono ?_;rintro e w1 ⟨rfl,q,rfl⟩))
   go_ret2
   have hp:=HS.out.goes _ (.nil HBG.out)
   simp only[US,Thk.Res.map,List.append_nil] at hp
   refine⟨_,hp,HS.out.kp.drewN q,k,a0,s.length,c0,rfl,hnk,hkl,rfl,⟨vs,⟨?_,?_⟩,?_⟩,HS.out.rd.drewN q⟩
   ·exact Zn HS.out.own (Nat.zero_le _)
   ·intro g hg;exact (HS.out.own.lt g hg).1
   ·have h1:zD wr (w.heap.size≤·) s vs:=zD.mono (fun g _ hg=>hg.1) s vs HS.out.terms
    exact zD.kept (w:=wr) (w':=wr.drewN q) ⟨fun _ _ h=>h,fun _ _ _=>rfl⟩ s vs h1
  | true=>
   rw[hbg] at hb
   have HBG:Hid (Thk.zX d (zu ps k)=true):=hbg
   have ht:=fun q=>htm (wr.drewN q) k (HS.out.rd.drewN q) hkl hnk
   clear hbg htm
   go_wp2_with (first | (go_at_call 66;refine hb.mono ?_;rintro e w1 ⟨rfl,q,rfl⟩))
   refine (ht q).mono ?_
   rintro e w1 ⟨res,hP,hK1,hE⟩
   have hsz1:=hK1.size
   have hK1':Kp rb wr.heap.size wr w1:=(Kp.drewN (Kp.refl _ _ _) q).trans hK1
   clear hK1 ht hb
   simp only[World.heap_drewN] at hsz1
   have HP:Hid (Thk.QF d (zu ps k) res):=hP
   have HK1:Hid (Kp rb wr.heap.size wr w1):=hK1'
   clear hP hK1'
   cases res with
   | err er p=>
    obtain⟨rfl,n',hR1⟩:=hE
    simp only[zS,zaE]
    have H1:Hid (Rd w1 rb tb tc ps n' d):=hR1
    clear hR1 hown
    go_wp2_with fail
    go_ret2
    have hp:=HS.out.goes _ (.err HBG.out HP.out)
    exact⟨_,hp,(HS.out.kp.trans (HK1.out.mono hwr)).alloc (by omega) _,rfl,n',H1.out.below (zc _ _)⟩
   | ok t rest=>
    obtain⟨a,pc,b⟩:=t
    obtain⟨k',x,rfl,hlt,hk',rfl,hRP,hR1⟩:=hE
    obtain⟨tt,xx,rfl⟩:=zp.oneCell hRP
    have HRP:Hid (zp w1 (wr.heap.size≤·) pc (.iface tt xx)):=hRP
    have H1:Hid (Rd w1 rb tb tc ps k' d):=hR1
    have hown1:w1.ownsRow w.heap.size 100 3 (.slice a0 s.length c0) s.length (QM s vs):=JT hown HS.out.rd.1 (by decide) HK1.out
    clear hRP hR1 hown
    go_wp2_with (first | (at_builtin;refine wpList_append_own_at _ rfl _ _ 133 rfl (w.heap.size) 100 i0 _ 3 32 Tryd.underlying133 hi hz0 hz1 hz2 rfl (by decide) _ _ _ rfl ((hown1.alloc _).alloc _) ⟨w1.heap.size+1,0,none⟩ 1 1 [.int .u8 a.toNat,.iface tt xx,.int .u8 b.toNat] rfl rfl ?c1 ?c2 ?c3 ?c4 ?c5 ?_))
    case c1=>rw[← World.size_alloc w1 (.cells #[.int .u8 a.toNat,.iface tt xx,.int .u8 b.toNat] 100)];exact zee _ _ _ _ _
    case c2=>intro u hu;simp at hu;rcases hu with rfl | rfl | rfl<;>rfl
    case c3=>unfold maxLen;omega
    case c4=>omega
    case c5=>simp;omega
    intro v' w5 hown' hgrow _ hat
    have hN:=HS.out.next hrl HBG.out HP.out hlt hk' HK1.out HRP.out H1.out hown' hgrow hat
    clear hown' hgrow hat hown1
    go_wp2_with fail
    go_roundg (ps.length - k')
    case measure=>omega
    case rel=>exact⟨k',_,_,rfl,hN⟩
def zai (c:Thk.Z5):Thk.Res Thk.Z5→Thk.Res Thk.Z5:=Thk.Res.map (c ++ ·)
structure V5 (w:World) (rb tb tc:Nat) (ps:List (Thk.Tok × Value)) (n d k:Nat) (c:Thk.Z5) (us:List Value) (v:Value) (wr:World):Prop where
 le:n≤k
 lt:k<ps.length
 len:c.length≤k - n
 own:wr.ownsRow w.heap.size 133 1 v c.length us
 seqs:zA wr (fun g=>w.heap.size≤g∧some g≠v.ownBlock) c us
 rd:Rd wr rb tb tc ps k d
 kp:Kp rb w.heap.size w wr
 goes:∀ r,Thk.Z8 d (zu ps k) r→Thk.Z8 d (zu ps n) (zai c r)
theorem V5.push {w:World} {rb tb tc:Nat} {ps:List (Thk.Tok × Value)} {n d k:Nat} {c:Thk.Z5} {us:List Value} {v:Value} {wr:World} (h:V5 w rb tb tc ps n d k c us v wr) (hrl:rb<w.heap.size)
  {s:Thk.Seq} {x:Value} {k':Nat} {w1 w5:World} {v':Value} {O1:Obj}
  (hK:Kp rb wr.heap.size wr w1) (hP:QX w1 (wr.heap.size≤·) s x) (hR:Rd w1 rb tb tc ps k' d)
  (ho:w5.ownsRow w.heap.size 133 1 v' (c.length+1) (us++[x])) (hg:(w1.alloc O1).grownBy w5 v.ownBlock)
  (hat:v'.ownBlock=v.ownBlock∨v'.ownBlock=some (w1.heap.size+1)) :
  w5.ownsRow w.heap.size 133 1 v' (c++[s]).length (us++[x])∧zA w5 (fun g=>w.heap.size≤g∧some g≠v'.ownBlock) (c++[s]) (us++[x])∧Rd w5 rb tb tc ps k' d∧Kp rb w.heap.size w w5:=by
 have hsz:=hK.size
 have hwr:=h.kp.size
 have hown1:w1.ownsRow w.heap.size 133 1 v c.length us:=JT h.own h.rd.1 (by decide) hK
 have hbl:=zfa hg
 have hgs:=hg.size
 simp at hgs
 have hvb:∀ g,v.ownBlock=some g→g<wr.heap.size:=fun g hg=>(h.own.lt g hg).2
 have hA:∀ g,g<w1.heap.size→w.heap.size≤g→some g≠v.ownBlock→(w.heap.size≤g∧some g≠v'.ownBlock):=by
  intro g h1 h2 h3
  refine⟨h2,?_⟩
  rcases hat with e | e<;>rw[e]
  ·exact h3
  ·simp;omega
 refine⟨by simpa using ho,?_,?_,?_⟩
 ·refine zA.snoc ?_ ?_
  ·have p1:QX w1 (fun g=>wr.heap.size≤g∧g<w1.heap.size) s x:=hP.mono (fun g h1 h2=>⟨h2,h1⟩)
   have p2:QX w5 (fun g=>wr.heap.size≤g∧g<w1.heap.size) s x:=p1.kept (KX hown1 hbl (by decide) (fun g hg e=>by have:=hvb g e.symm;omega))
   exact p2.mono (fun g _ hg=>hA g hg.2 (by omega) (fun e=>by have:=hvb g e.symm;omega))
  ·have p0:=zA.kept (KY (A:=fun g=>w.heap.size≤g∧some g≠v.ownBlock) h.rd.1 hK (fun g hg=>by omega)) c us h.seqs
   have p1:zA w1 (fun g=>(w.heap.size≤g∧some g≠v.ownBlock)∧g<w1.heap.size) c us:=zA.mono (fun g h1 h2=>⟨h2,h1⟩) c us p0
   have p2:zA w5 (fun g=>(w.heap.size≤g∧some g≠v.ownBlock)∧g<w1.heap.size) c us:=zA.kept (KX hown1 hbl (by decide) (fun g hg=>hg.1.2)) c us p1
   exact zA.mono (fun g _ hg=>hA g hg.2 hg.1.1 hg.1.2) c us p2
 ·exact hR.but hown1 hbl (by decide) (by decide) (by decide)
 ·exact (((h.kp.trans (hK.mono hwr))).alloc (by omega) O1).grown hg (by simp;omega) (fun g hg'=>(h.own.lt g hg').1)
theorem Tryd.infoSeq:(Tryd.prog.info? 133).map (fun i=>(i.zero,i.size,i.bytes))=some (some (.slice none 0 0),1,24):=by kernel_rfl
theorem zfH {k:Thk.TK} (hk:Qm k):(k = .sign 47∧zt k=47)∨(k≠.sign 47∧(zt k != 47)=true):=by
 by_cases h:k = .sign 47
 ·left;subst h;exact⟨rfl,rfl⟩
 ·right
  refine⟨h,?_⟩
  rw[bne_iff_ne]
  intro e
  exact h (KN hk (c:=47) (by decide) (by rw[e];rfl))
theorem zem (rb tb tc:Nat) (ps:List (Thk.Tok × Value)) (hg:QE ps) (R:Nat) (hC:∀ R',R'<R→YJ rb tb tc ps R'):YJ rb tb tc ps R:=by
 intro w n d h hn hR hdd
 obtain⟨i0,hi,hz0,hz1,hz2⟩:=info_parts Tryd.infoSeq
 have hrl:=h.lt
 have hl:=h.2.2.1
 have hsq:=fun w' k (hr:Rd w' rb tb tc ps k d) (hk:k<ps.length) (hnk:n≤k)=>ziD w' rb tb tc ps k d hr hg hk hdd R (by omega) hC
 have H:Hid (Rd w rb tb tc ps n d):=h
 clear h hC
 go_enter Tryd.func54,Tryd.ntmps54
 go_wp2_with fail
 go_loopg [4] (ps.length - n) (fun g v wr=>∃ k c us,g=ps.length - k∧V5 w rb tb tc ps n d k c us v wr)
 case atStart=>
  refine⟨n,[],[],rfl,Nat.le_refl _,hn,by simp,World.ownsRow_nil _ _ _ _,by simp[zA],H.out,Kp.refl _ _ _,?_⟩
  intro r hr;cases r<;>exact hr
 case round=>
  obtain⟨k,c,us,rfl,hS⟩:=hrel
  have hs:=hsq wr k hS.rd hS.lt hS.le
  have hkl:=hS.lt
  have hnk:=hS.le
  have hcl:=hS.len
  have hwr:=hS.kp.size
  have HS:Hid (V5 w rb tb tc ps n d k c us u4 wr):=hS
  have hown:=hS.own
  clear hS hsq
  go_wp2_with fail
  refine hs.mono ?_
  rintro e w1 ⟨res,hP,hK1,hE⟩
  have hsz1:=hK1.size
  have HP:Hid (Thk.ZW d (zu ps k) res):=hP
  have HK1:Hid (Kp rb wr.heap.size wr w1):=hK1
  clear hs hP hK1
  cases res with
  | err er p=>
   obtain⟨rfl,n',hR1⟩:=hE
   simp only[zS]
   have H1:Hid (Rd w1 rb tb tc ps n' d):=hR1
   clear hR1 hown
   go_wp2_with fail
   go_ret2
   exact⟨_,HS.out.goes _ (.err HP.out),HS.out.kp.trans (HK1.out.mono hwr),rfl,n',H1.out⟩
  | ok s rest=>
   obtain⟨k',sa,sl,sc,rfl,hle,hk',rfl,hRS,hR1⟩:=hE
   have HRS:Hid (QX w1 (wr.heap.size≤·) s (.slice sa sl sc)):=hRS
   have H1:Hid (Rd w1 rb tb tc ps k' d):=hR1
   have hown1:w1.ownsRow w.heap.size 133 1 u4 c.length us:=JT hown HS.out.rd.1 (by decide) HK1.out
   clear hRS hR1 hown
   go_wp2_with (first | (at_builtin;refine wpList_append_own_at _ rfl _ _ 88 rfl (w.heap.size) 133 i0 _ 1 24 Tryd.underlying88 hi hz0 hz1 hz2 rfl (by decide) _ _ _ rfl (hown1.alloc _) ⟨w1.heap.size,0,none⟩ 1 1 [.slice sa sl sc] rfl rfl ?c1 ?c2 ?c3 ?c4 ?c5 ?_))
   case c1=>exact cell_one_new _ _ _
   case c2=>intro u hu;simp at hu;subst hu;rfl
   case c3=>unfold maxLen;omega
   case c4=>omega
   case c5=>simp;omega
   intro v' w5 hown' hgrow _ hat
   obtain⟨p1,p2,p3,p4⟩:=HS.out.push hrl HK1.out HRS.out H1.out hown' hgrow hat
   obtain⟨va,vc,hv⟩:=zl hown'
   subst hv
   have P1:Hid (w5.ownsRow w.heap.size 133 1 (.slice va (c.length+1) vc) (c++[s]).length (us++[.slice sa sl sc])):=p1
   have P2:Hid (zA w5 (fun g=>w.heap.size≤g∧some g≠(Value.slice va (c.length+1) vc).ownBlock) (c++[s]) (us++[.slice sa sl sc])):=p2
   have P3:Hid (Rd w5 rb tb tc ps k' d):=p3
   have P4:Hid (Kp rb w.heap.size w w5):=p4
   obtain⟨r0,r1,r2,rf⟩:=p3.cells
   clear hown' hgrow hat hown1 p1 p2 p3 p4
   rcases zfH (hg k' hk').1 with ⟨hks,hki⟩ | ⟨hks,hki⟩
   ·have hkd:=JA w5 rb tb tc ps k' d P3.out hk' 47 hki
    have hk1:k'+1<ps.length:=(hg k' hk').2 (by rw[hks];rfl)
    have HKS:Hid (ps[k'].1.kind = .sign 47):=hks
    clear hks hki
    go_wp2_with (first | (go_at_call 32;refine hkd.mono ?_;rintro e w6 ⟨rfl,q,rfl⟩))
    have hN:V5 w rb tb tc ps n d (k'+1) (c++[s]) (us++[.slice sa sl sc]) (.slice va (c.length+1) vc) ((w5.setCell ⟨rb,1,none⟩ (.int .i64 ((k':Int)+1))).drewN q):=by
     have hKs:Kp rb w5.heap.size w5 ((w5.setCell ⟨rb,1,none⟩ (.int .i64 ((k':Int)+1))).drewN q):=((Kp.refl _ _ _).setRb _ _).drewN q
     refine⟨by omega,hk1,by simp;omega,JT P1.out P3.out.1 (by decide) hKs,zA.kept (KY P3.out.1 hKs (fun g hg=>by omega)) _ _ P2.out,(P3.out.set1 (k'+1)).drewN q,(P4.out.setRb _ _).drewN q,?_⟩
     intro r hr
     have hm:Thk.ZW d (zu ps k) (.ok s (zu ps k')):=HP.out
     rw[← Qy hk'] at hr
     have hsl:(Thk.hd (zu ps k')).kind = .sign 47:=by rw[Z0 hk'];exact HKS.out
     cases r with
     | ok c' rest=>exact (by simpa [zai,Thk.Res.map] using HS.out.goes _ (.more hm hsl hr))
     | err e p=>exact (by simpa [zai,Thk.Res.map] using HS.out.goes _ (.later hm hsl hr))
    go_roundg (ps.length - (k'+1))
    case measure=>omega
    case rel=>exact⟨k'+1,_,_,rfl,hN⟩
   ·have hkd:=JA w5 rb tb tc ps k' d P3.out hk' _ rfl
    have HKS:Hid (ps[k'].1.kind≠.sign 47):=hks
    clear hks
    generalize zt ps[k'].1.kind=K at *
    go_wp2_with (first | (go_at_call 32;refine hkd.mono ?_;rintro e w6 ⟨rfl,q,rfl⟩))
    go_ret2
    have hp:=HS.out.goes _ (.last HP.out (by rw[Z0 hk'];exact HKS.out))
    refine⟨_,hp,P4.out.drewN q,k',va,c.length+1,vc,rfl,by omega,hk',rfl,⟨us++[.slice sa sl sc],⟨?_,?_⟩,?_⟩,P3.out.drewN q⟩
    ·exact Zn P1.out (Nat.zero_le _)
    ·intro g hg;exact (P1.out.lt g hg).1
    ·have h1:zA w5 (w.heap.size≤·) (c++[s]) (us++[.slice sa sl sc]):=zA.mono (fun g _ hg=>hg.1) _ _ P2.out
     exact zA.kept (w:=w5) (w':=w5.drewN q) ⟨fun _ _ h=>h,fun _ _ _=>rfl⟩ _ _ h1
theorem zel (rb tb tc:Nat) (ps:List (Thk.Tok × Value)) (hg:QE ps) (R:Nat):YJ rb tb tc ps R:=by
 induction R using Nat.strongRecOn with
 | ind R ih=>exact zem rb tb tc ps hg R ih
def zdC (w:World) (rb tb tc:Nat) (ps:List (Thk.Tok × Value)) (n:Nat) (e:Ending) (w':World):Thk.Res Thk.ze→Prop
 | .ok r rest=>∃ n' a l cp,rest=zu ps n'∧n<n'∧n'<ps.length∧e = .returned (.tuple #[.agg #[.string ⟨r.name.toArray⟩,.slice a l cp],.nilIface])∧Zt w' (w.heap.size≤·) r.choice (.slice a l cp)∧Rd w' rb tb tc ps n' 0∧r.name.length≤2000
 | .err er p=>∃ z,e = .returned (.tuple #[.agg #[.string z,.slice none 0 0],zS er p])∧∃ n',Rd w' rb tb tc ps n' 0
def qC (w:World) (rb tb tc:Nat) (ps:List (Thk.Tok × Value)) (m n:Nat) (e:Ending) (w':World):Prop:=
 ∃ res,Thk.ZV m (zu ps n) res∧Kp rb w.heap.size w w'∧zdC w rb tb tc ps n e w' res
abbrev Jr:Obj:=.cells #[.string ⟨#[]⟩,.slice none 0 0] 90
theorem zfG {k:Thk.TK} (hk:Qm k):(k = .name∧zt k=2)∨(k≠.name∧zt k≠2):=by
 cases k with
 | name=>left;exact⟨rfl,rfl⟩
 | sign c=>right;have:=KW hk;refine⟨by simp,?_⟩;simp only[zt];omega
 | _=>right;simp[zt]
theorem zfC {k:Thk.TK} (hk:Qm k):(k = .arrow∧zt k=3)∨(k≠.arrow∧zt k≠3):=by
 cases k with
 | arrow=>left;exact⟨rfl,rfl⟩
 | sign c=>right;have:=KW hk;refine⟨by simp,?_⟩;simp only[zt];omega
 | _=>right;simp[zt]
theorem VB {rb:Nat} {W w1:World} (hb:Kp rb W.heap.size W w1) {b:Nat} (h1:b<W.heap.size) (h2:b≠rb):w1.heap[b]? = W.heap[b]? := hb.block b h1 h2
theorem ziu (w:World) (rb tb tc:Nat) (ps:List (Thk.Tok × Value)) (m n:Nat) (h:Rd w rb tb tc ps n 0) (hn:n<ps.length) (hk:ps[n].1.kind≠.name) (hki:zt ps[n].1.kind≠2) :
  Calls Tryd.prog 31 #[.pointer (some ⟨rb,0,none⟩),.int .i64 m] w fun e w'=>qC w rb tb tc ps m n e w':=by
 have hrl:=h.lt
 have hex:=qQ (w.alloc Jr) rb tb tc ps n 0 (h.below (zc _ _)) hn 2 hki
 obtain⟨a0,b0,e0⟩:=zl (h.2.1.2 ps[n] (List.getElem_mem hn))
 simp only[zP,e0] at hex
 clear e0 h hki
 go_enter Tryd.func31,Tryd.ntmps31
 go_wp2_with fail
 refine hex.mono ?_
 rintro e w1 ⟨rfl,hR1,hK1⟩
 have hsz1:=hK1.size
 simp at hsz1
 have hrc1:w1.heap[w.heap.size]? = some Jr:=by rw[VB hK1 (by simp) (by omega)];exact zk _ _
 have q1:=z8 hrc1
 have f1:=zi hrc1
 have hlt1:w.heap.size<w1.heap.size:=by omega
 have H1:Hid (Rd w1 rb tb tc ps n 0):=hR1
 have HK1:Hid (Kp rb w.heap.size w w1):=(Kp.of (zc _ _)).trans (hK1.mono (by simp))
 have HRC:Hid (w1.heap[w.heap.size]? = some Jr):=hrc1
 clear hex hR1 hK1 hrc1
 go_wp2_with fail
 refine bodyPost_ret (v:=.tuple #[.agg #[.string ⟨#[]⟩,.slice none 0 0],zS 2 ps[n].1.place]) (by simp[results,Tryd.results31,go_sem,zS,q1,hlt1]) rfl ?_
 refine⟨.err 2 ps[n].1.place,?_,?_,_,rfl,n,?_⟩
 ·rw[← Z0 hn];exact .noName (by rw[Z0 hn];exact hk)
 ·exact ((HK1.out.setCell (Nat.le_refl _) _).setCell (Nat.le_refl _) _).alloc (by simp;omega) _
 ·refine (H1.out.other (b:=w.heap.size) (fun g hg _=>?_) HRC.out (by decide) (by decide) (by decide)).below (zc _ _)
  rw[Below.heap_setCell _ _ _ _ hg,Below.heap_setCell _ _ _ _ hg]
end Go.Proofs.YtiganlkabilblaaDoor
