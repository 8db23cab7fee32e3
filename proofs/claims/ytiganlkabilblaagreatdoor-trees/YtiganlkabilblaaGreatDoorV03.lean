import Derived.Test.YtiganlkabilblaaGreatDoorV02
import Derived.Defers
import Derived.Deep.LoopGhost
set_option linter.all false
set_option maxHeartbeats 64000000
set_option maxRecDepth 100000
namespace Go.Proofs.YtiganlkabilblaaGreatDoor
open Go.RowKit
def tsOf (ps:List (Thk.Tok × Value)) (n:Nat):List Thk.Tok:=(ps.map (·.1)).drop n
def GoodP (ps:List (Thk.Tok × Value)):Prop:=∀ i (h:i<ps.length),zaV ps[i].1.kind∧(ps[i].1.kind.last=false→i+1<ps.length)
theorem tsOf_cons {ps:List (Thk.Tok × Value)} {n:Nat} (h:n<ps.length):tsOf ps n=ps[n].1::tsOf ps (n+1):=by
 unfold tsOf
 rw[List.drop_eq_getElem_cons (by simpa using h)]
 simp
theorem zai {ps:List (Thk.Tok × Value)} {n:Nat} (h:n<ps.length):Thk.hd (tsOf ps n)=ps[n].1:=by rw[tsOf_cons h];rfl
theorem zaR {ps:List (Thk.Tok × Value)} {n:Nat} (h:n<ps.length):(tsOf ps n).tail=tsOf ps (n+1):=by rw[tsOf_cons h];rfl
theorem kindI_arrow {k:Thk.TK} (hk:zaV k):(kindI k == 3)=k.isArrow:=by
 cases k with
 | sign c=>
  have:=zcs hk
  rw[beq_eq_false_iff_ne.2 (by simp only[kindI];omega)]
  rfl
 | _=>rfl
theorem sign_cases {c:UInt8} (h:Thk.signB c=true):c=47∨c=38∨c=33∨c=63∨c=42∨c=43∨c=40∨c=41∨c=46:=by
 simpa [Thk.signB] using h
theorem zbk (w:World) (rb tb tc:Nat) (ps:List (Thk.Tok × Value)) (n d:Nat) (h:Rd w rb tb tc ps n d) (hn:n<ps.length) (K:Int) (hK:kindI ps[n].1.kind=K) :
  Calls Tryz.prog 124 #[.pointer (some ⟨rb,0,none⟩)] w fun e w'=>e = .returned (.int .u8 K)∧∃ q,w'=w.drewN q:=hK ▸ kind_any w rb tb tc ps n d h hn
theorem zf8 (w:World) (rb tb tc:Nat) (ps:List (Thk.Tok × Value)) (n d:Nat) (h:Rd w rb tb tc ps n d) (hg:GoodP ps) (hn:n<ps.length) (hd:d≤6) :
  Calls Tryz.prog 195 #[.pointer (some ⟨rb,0,none⟩)] w fun e w'=>e = .returned (.bool (Thk.zap d (tsOf ps n)))∧∃ q,w'=w.drewN q:=by
 obtain⟨hok,hnx⟩:=hg n hn
 cases hk:ps[n].1.kind with
 | name=>
  have hn1:=hnx (by rw[hk];rfl)
  have e:Thk.zap d (tsOf ps n) = !(decide (d=0) && (kindI ps[n+1].1.kind == 3)):=by
   unfold Thk.zap
   rw[zai hn,zaR hn,zai hn1,hk,kindI_arrow (hg (n+1) hn1).1]
   simp only[]
   rfl
  rw[e]
  have hc:=zbk w rb tb tc ps n d h hn 2 (by rw[hk];rfl)
  have hb:=fun q=>zf9 (w.drewN q) rb tb tc ps n d (h.drewN q) hn1 hd
  clear e
  generalize (decide (d=0) && (kindI ps[n+1].1.kind == 3))=b at *
  go_enter Tryz.func195,Tryz.ntmps195
  go_wp2_with (first | (go_at_call 124;refine hc.mono ?_;rintro e w1 ⟨rfl,q,rfl⟩) | (go_at_call 204;refine (hb _).mono ?_;rintro e w1 ⟨rfl,q,rfl⟩))
  go_ret
  exact⟨rfl,_,rfl⟩
 | fin=>
  have e:Thk.zap d (tsOf ps n)=false:=by unfold Thk.zap;rw[zai hn,hk]
  rw[e]
  have hc:=zbk w rb tb tc ps n d h hn 0 (by rw[hk];rfl)
  go_enter Tryz.func195,Tryz.ntmps195
  go_wp2_with (first | (go_at_call 124;refine hc.mono ?_;rintro e w1 ⟨rfl,q,rfl⟩))
  go_ret
  exact⟨rfl,_,rfl⟩
 | bad=>
  have e:Thk.zap d (tsOf ps n)=false:=by unfold Thk.zap;rw[zai hn,hk]
  rw[e]
  have hc:=zbk w rb tb tc ps n d h hn 1 (by rw[hk];rfl)
  go_enter Tryz.func195,Tryz.ntmps195
  go_wp2_with (first | (go_at_call 124;refine hc.mono ?_;rintro e w1 ⟨rfl,q,rfl⟩))
  go_ret
  exact⟨rfl,_,rfl⟩
 | arrow=>
  have e:Thk.zap d (tsOf ps n)=false:=by unfold Thk.zap;rw[zai hn,hk]
  rw[e]
  have hc:=zbk w rb tb tc ps n d h hn 3 (by rw[hk];rfl)
  go_enter Tryz.func195,Tryz.ntmps195
  go_wp2_with (first | (go_at_call 124;refine hc.mono ?_;rintro e w1 ⟨rfl,q,rfl⟩))
  go_ret
  exact⟨rfl,_,rfl⟩
 | lit=>
  have e:Thk.zap d (tsOf ps n)=true:=by unfold Thk.zap;rw[zai hn,hk]
  rw[e]
  have hc:=zbk w rb tb tc ps n d h hn 4 (by rw[hk];rfl)
  go_enter Tryz.func195,Tryz.ntmps195
  go_wp2_with (first | (go_at_call 124;refine hc.mono ?_;rintro e w1 ⟨rfl,q,rfl⟩))
  go_ret
  exact⟨rfl,_,rfl⟩
 | cls=>
  have e:Thk.zap d (tsOf ps n)=true:=by unfold Thk.zap;rw[zai hn,hk]
  rw[e]
  have hc:=zbk w rb tb tc ps n d h hn 5 (by rw[hk];rfl)
  go_enter Tryz.func195,Tryz.ntmps195
  go_wp2_with (first | (go_at_call 124;refine hc.mono ?_;rintro e w1 ⟨rfl,q,rfl⟩))
  go_ret
  exact⟨rfl,_,rfl⟩
 | sign c=>
  rw[hk] at hok
  have e:Thk.zap d (tsOf ps n)=(c == 38 || c == 33 || c == 46 || c == 40):=by unfold Thk.zap;rw[zai hn,hk]
  rw[e]
  have hc:=zbk w rb tb tc ps n d h hn c.toNat (by rw[hk];rfl)
  clear hk e hnx
  rcases sign_cases hok with rfl | rfl | rfl | rfl | rfl | rfl | rfl | rfl | rfl
  all_goals
   simp at hc
   clear hok
   go_enter Tryz.func195,Tryz.ntmps195
   go_wp2_with (first | (go_at_call 124;refine hc.mono ?_;rintro e w1 ⟨rfl,q,rfl⟩))
   go_ret
   exact⟨rfl,_,rfl⟩
def hitK (ks:List UInt8) (K:Int):Bool:=ks.any fun c=>(c.toNat:Int) == K
theorem sign_any (w:World) (rb tb tc:Nat) (ps:List (Thk.Tok × Value)) (n d:Nat) (h:Rd w rb tb tc ps n d) (hn:n<ps.length) (K:Int) (hK:kindI ps[n].1.kind=K)
  (ks:List UInt8) (kb:Nat) (hks:ks.length≤3) (hcs:∀ i (hi:i<ks.length),w.cell? ⟨kb,i,none⟩=some (.int .u8 ks[i].toNat)) :
  Calls Tryz.prog 205 #[.pointer (some ⟨rb,0,none⟩),.slice (some ⟨kb,0,none⟩) ks.length ks.length] w fun e w'=>
   (hitK ks K=true→e = .returned (.int .u8 K)∧Rd w' rb tb tc ps (n+1) d)∧(hitK ks K=false→e = .returned (.int .u8 0)∧Rd w' rb tb tc ps n d)∧Kp rb w.heap.size w w':=by
 have hc:=fun q=>zbk (w.drewN q) rb tb tc ps n d (h.drewN q) hn K hK
 obtain⟨c0,c1,c2,fz⟩:=h.cells
 have hl:=h.2.2.1
 have H:Hid (Rd w rb tb tc ps n d):=h
 have HC:Hid (∀ i (hi:i<ks.length),w.cell? ⟨kb,i,none⟩=some (.int .u8 ks[i].toNat)):=hcs
 clear h hK hcs
 go_enter Tryz.func205,Tryz.ntmps205
 go_wp2_with fail
 go_loopw [9] (fun i wr=>∃ (j q:Nat),j≤ks.length∧i = .int .i64 j∧wr=w.drewN q∧Hid (∀ t (ht:t<ks.length),t<j→((ks[t].toNat:Int) == K)=false)) (fun i _=>ks.length - (intOf i).toNat)
 case atStart=>exact⟨0,0,Nat.zero_le _,rfl,rfl,fun t _ ht=>by omega⟩
 case round=>
  obtain⟨j,q,hj,rfl,rfl,hN⟩:=hrel
  by_cases hlt:j<ks.length
  ·have hcj:=HC.out j hlt
   have hlt':(j:Int)<ks.length:=by omega
   by_cases hm:K=ks[j].toNat
   ·have tm:(K == (ks[j].toNat:Int))=true:=by rw[hm];simp
    have hhit:hitK ks K=true:=by
     unfold hitK;rw[List.any_eq_true];exact⟨ks[j],List.getElem_mem hlt,by rw[hm];simp⟩
    have HF:Hid (hitK ks K=true):=hhit
    have HM:Hid (K=ks[j].toNat):=hm
    clear hm hhit
    go_wp2_with (first | (go_at_call 124;refine (hc _).mono ?_;rintro e w1 ⟨rfl,q,rfl⟩))
    go_ret
    refine⟨fun _=>⟨?_,?_⟩,fun h=>?_,?_⟩
    ·show Ending.returned (Value.int IntKind.u8 _)=_
     rw[HM.out]
    ·exact (H.out.set1 (n+1)).below (below_drewN (Below.refl _ _) _)
    ·rw[HF.out] at h;cases h
    ·exact ((Kp.refl _ _ _).setRb _ _).drewN _
   ·have tm:(K == (ks[j].toNat:Int))=false:=beq_eq_false_iff_ne.2 hm
    have hN':Hid (∀ t (ht:t<ks.length),t<j+1→((ks[t].toNat:Int) == K)=false):=by
     intro t ht h1
     by_cases e:t=j
     ·subst e;exact beq_eq_false_iff_ne.2 (fun e=>hm e.symm)
     ·exact hN.out t ht (by omega)
    clear hm hN
    go_wp2_with (first | (go_at_call 124;refine (hc _).mono ?_;rintro e w1 ⟨rfl,q,rfl⟩))
    go_roundw
    case rel=>exact⟨j+1,_,by omega,by go_num,rfl,hN'⟩
    case measure=>simp[intOf];omega
  ·have hno:hitK ks K=false:=by
    unfold hitK
    rw[List.any_eq_false]
    intro c hc
    obtain⟨t,ht,rfl⟩:=List.getElem_of_mem hc
    rw[hN.out t ht (by omega)];simp
   have HF:Hid (hitK ks K=false):=hno
   clear hno hN
   go_wp2_with fail
   go_ret
   refine⟨fun h=>?_,fun _=>⟨rfl,?_⟩,?_⟩
   ·rw[HF.out] at h;cases h
   ·exact H.out.drewN _
   ·exact (Kp.refl _ _ _).drewN _
def zal (er p:Nat):Value:=.iface 128 (.agg #[.int .i64 er,.int .i64 p])
def Row (w:World) (A:Nat→Prop) (e:TypeId) (sz:Nat) (v:Value) (n:Nat) (xs:List Value):Prop:=w.ownsRow 0 e sz v n xs∧∀ g,v.ownBlock=some g→A g
theorem Row.mono {w:World} {A A':Nat→Prop} {e:TypeId} {sz:Nat} {v:Value} {n:Nat} {xs:List Value} (h:Row w A e sz v n xs) (hA:∀ g,g<w.heap.size→A g→A' g):Row w A' e sz v n xs:=
 ⟨h.1,fun g hg=>hA g (h.1.lt g hg).2 (h.2 g hg)⟩
theorem zah {w w':World} {base:Nat} {e:TypeId} {size:Nat} {v:Value} {n:Nat} {xs:List Value} (h:w.ownsRow base e size v n xs) (hb:∀ g,v.ownBlock=some g→w'.heap[g]? = w.heap[g]?):w'.ownsRow base e size v n xs:=by
 obtain⟨h1,h2⟩:=h
 refine⟨h1,?_⟩
 rcases h2 with h2 | ⟨g,cap,cur,hv,hg,hh,r⟩
 ·exact Or.inl h2
 ·refine Or.inr ⟨g,cap,cur,hv,hg,?_,r⟩
  rw[hb g (by rw[hv];rfl)];exact hh
theorem Row.kept {w w':World} {A:Nat→Prop} {e:TypeId} {sz:Nat} {v:Value} {n:Nat} {xs:List Value} (h:Row w A e sz v n xs) (hb:∀ g,g<w.heap.size→A g→w'.heap[g]? = w.heap[g]?):Row w' A e sz v n xs:=
 ⟨zah h.1 (fun g hg=>hb g (h.1.lt g hg).2 (h.2 g hg)),h.2⟩
def termC:List Thk.Term→List Value→List Value
 | .mk a _ b::s,v::vs=>.int .u8 a.toNat::v :: .int .u8 b.toNat::termC s vs
 | _,_=>[]
mutual
def RPiece (w:World) (A:Nat→Prop):Thk.Piece→Value→Prop
  | .name b,v=>v = .iface 251 (.agg #[.string ⟨b.toArray⟩])∧b.length≤2000
  | .lit b,v=>v = .iface 319 (.agg #[.string ⟨b.toArray⟩])
  | .cls l,v=>∃ u,v = .iface 321 (.agg #[u])∧Spans w 0 u l
  | .any,v=>v = .iface 345 (.agg #[])
  | .group c,v=>∃ u us,v = .iface 296 (.agg #[u])∧Row w A 215 1 u c.length us∧RSeqs w A c us
def RTerm (w:World) (A:Nat→Prop):Thk.Term→Value→Prop
  | .mk _ p _,v=>RPiece w A p v
def RTerms (w:World) (A:Nat→Prop):List Thk.Term→List Value→Prop
  | [],vs=>vs=[]
  | t::s,vs=>∃ v vs',vs=v::vs'∧RTerm w A t v∧RTerms w A s vs'
def RSeqs (w:World) (A:Nat→Prop):List (List Thk.Term)→List Value→Prop
  | [],us=>us=[]
  | s::c,us=>∃ u us',us=u::us'∧(∃ vs,Row w A 249 3 u s.length (termC s vs)∧RTerms w A s vs)∧RSeqs w A c us'
 end
def RSeq (w:World) (A:Nat→Prop) (s:Thk.Seq) (u:Value):Prop:=∃ vs,Row w A 249 3 u s.length (termC s vs)∧RTerms w A s vs
def RChoice (w:World) (A:Nat→Prop) (c:Thk.zat) (u:Value):Prop:=∃ us,Row w A 215 1 u c.length us∧RSeqs w A c us
structure Sm (A:Nat→Prop) (w w':World):Prop where
 spans:∀ u l,Spans w 0 u l→Spans w' 0 u l
 blocks:∀ g,g<w.heap.size→A g→w'.heap[g]? = w.heap[g]?
mutual
theorem RPiece.kept {w w':World} {A:Nat→Prop} (h:Sm A w w'):∀ (p:Thk.Piece) (v:Value),RPiece w A p v→RPiece w' A p v
  | .name _,_,hp=>by simp only[RPiece] at hp ⊢;exact hp
  | .lit _,_,hp=>by simp only[RPiece] at hp ⊢;exact hp
  | .cls _,_,hp=>by
    simp only[RPiece] at hp ⊢
    obtain⟨u,hv,hs⟩:=hp
    exact⟨u,hv,h.spans _ _ hs⟩
  | .any,_,hp=>by simp only[RPiece] at hp ⊢;exact hp
  | .group c,_,hp=>by
    simp only[RPiece] at hp ⊢
    obtain⟨u,us,hv,hr,hc⟩:=hp
    exact⟨u,us,hv,hr.kept h.blocks,RSeqs.kept h c us hc⟩
theorem RTerm.kept {w w':World} {A:Nat→Prop} (h:Sm A w w'):∀ (t:Thk.Term) (v:Value),RTerm w A t v→RTerm w' A t v
  | .mk _ p _,v,ht=>by simp only[RTerm] at ht ⊢;exact RPiece.kept h p v ht
theorem RTerms.kept {w w':World} {A:Nat→Prop} (h:Sm A w w'):∀ (s:List Thk.Term) (vs:List Value),RTerms w A s vs→RTerms w' A s vs
  | [],_,hs=>by simp only[RTerms] at hs ⊢;exact hs
  | t::s,_,hs=>by
    simp only[RTerms] at hs ⊢
    obtain⟨v,vs',hv,ht,hs⟩:=hs
    exact⟨v,vs',hv,RTerm.kept h t v ht,RTerms.kept h s vs' hs⟩
theorem RSeqs.kept {w w':World} {A:Nat→Prop} (h:Sm A w w'):∀ (c:List (List Thk.Term)) (us:List Value),RSeqs w A c us→RSeqs w' A c us
  | [],_,hs=>by simp only[RSeqs] at hs ⊢;exact hs
  | s::c,_,hs=>by
    simp only[RSeqs] at hs ⊢
    obtain⟨u,us',hu,⟨vs,hr,ht⟩,hc⟩:=hs
    exact⟨u,us',hu,⟨vs,hr.kept h.blocks,RTerms.kept h s vs ht⟩,RSeqs.kept h c us' hc⟩
 end
mutual
theorem RPiece.mono {w:World} {A A':Nat→Prop} (h:∀ g,g<w.heap.size→A g→A' g):∀ (p:Thk.Piece) (v:Value),RPiece w A p v→RPiece w A' p v
  | .name _,_,hp=>by simp only[RPiece] at hp ⊢;exact hp
  | .lit _,_,hp=>by simp only[RPiece] at hp ⊢;exact hp
  | .cls _,_,hp=>by simp only[RPiece] at hp ⊢;exact hp
  | .any,_,hp=>by simp only[RPiece] at hp ⊢;exact hp
  | .group c,_,hp=>by
    simp only[RPiece] at hp ⊢
    obtain⟨u,us,hv,hr,hc⟩:=hp
    exact⟨u,us,hv,hr.mono h,RSeqs.mono h c us hc⟩
theorem RTerm.mono {w:World} {A A':Nat→Prop} (h:∀ g,g<w.heap.size→A g→A' g):∀ (t:Thk.Term) (v:Value),RTerm w A t v→RTerm w A' t v
  | .mk _ p _,v,ht=>by simp only[RTerm] at ht ⊢;exact RPiece.mono h p v ht
theorem RTerms.mono {w:World} {A A':Nat→Prop} (h:∀ g,g<w.heap.size→A g→A' g):∀ (s:List Thk.Term) (vs:List Value),RTerms w A s vs→RTerms w A' s vs
  | [],_,hs=>by simp only[RTerms] at hs ⊢;exact hs
  | t::s,_,hs=>by
    simp only[RTerms] at hs ⊢
    obtain⟨v,vs',hv,ht,hs⟩:=hs
    exact⟨v,vs',hv,RTerm.mono h t v ht,RTerms.mono h s vs' hs⟩
theorem RSeqs.mono {w:World} {A A':Nat→Prop} (h:∀ g,g<w.heap.size→A g→A' g):∀ (c:List (List Thk.Term)) (us:List Value),RSeqs w A c us→RSeqs w A' c us
  | [],_,hs=>by simp only[RSeqs] at hs ⊢;exact hs
  | s::c,_,hs=>by
    simp only[RSeqs] at hs ⊢
    obtain⟨u,us',hu,⟨vs,hr,ht⟩,hc⟩:=hs
    exact⟨u,us',hu,⟨vs,hr.mono h,RTerms.mono h s vs ht⟩,RSeqs.mono h c us' hc⟩
 end
theorem RChoice.kept {w w':World} {A:Nat→Prop} (h:Sm A w w') {c:Thk.zat} {u:Value} (hc:RChoice w A c u):RChoice w' A c u:=by
 obtain⟨us,hr,hs⟩:=hc
 exact⟨us,hr.kept h.blocks,RSeqs.kept h c us hs⟩
theorem RChoice.mono {w:World} {A A':Nat→Prop} (h:∀ g,g<w.heap.size→A g→A' g) {c:Thk.zat} {u:Value} (hc:RChoice w A c u):RChoice w A' c u:=by
 obtain⟨us,hr,hs⟩:=hc
 exact⟨us,hr.mono h,RSeqs.mono h c us hs⟩
theorem RSeq.kept {w w':World} {A:Nat→Prop} (h:Sm A w w') {c:Thk.Seq} {u:Value} (hc:RSeq w A c u):RSeq w' A c u:=by
 obtain⟨us,hr,hs⟩:=hc
 exact⟨us,hr.kept h.blocks,RTerms.kept h c us hs⟩
theorem RSeq.mono {w:World} {A A':Nat→Prop} (h:∀ g,g<w.heap.size→A g→A' g) {c:Thk.Seq} {u:Value} (hc:RSeq w A c u):RSeq w A' c u:=by
 obtain⟨us,hr,hs⟩:=hc
 exact⟨us,hr.mono h,RTerms.mono h c us hs⟩
theorem termC_append (s:List Thk.Term) (vs:List Value) (h:s.length=vs.length) (a b:UInt8) (p:Thk.Piece) (v:Value) :
  termC (s++[.mk a p b]) (vs++[v])=termC s vs++[.int .u8 a.toNat,v,.int .u8 b.toNat]:=by
 induction s generalizing vs with
 | nil=>cases vs with
  | nil=>rfl
  | cons _ _=>simp at h
 | cons t s ih=>cases vs with
  | nil=>simp at h
  | cons u vs=>
   cases t with
   | mk a' p' b'=>
    simp only[List.cons_append,termC]
    rw[ih vs (by simpa using h)]
theorem RTerms.length {w:World} {A:Nat→Prop}:∀ {s:List Thk.Term} {vs:List Value},RTerms w A s vs→s.length=vs.length
 | [],_,h=>by simp only[RTerms] at h;subst h;rfl
 | t::s,_,h=>by
  simp only[RTerms] at h
  obtain⟨v,vs',rfl,_,hs⟩:=h
  simp[RTerms.length hs]
theorem RSeqs.length {w:World} {A:Nat→Prop}:∀ {s:List (List Thk.Term)} {vs:List Value},RSeqs w A s vs→s.length=vs.length
 | [],_,h=>by simp only[RSeqs] at h;subst h;rfl
 | t::s,_,h=>by
  simp only[RSeqs] at h
  obtain⟨v,vs',rfl,_,hs⟩:=h
  simp[RSeqs.length hs]
theorem RTerms.snoc {w:World} {A:Nat→Prop} {t:Thk.Term} {v:Value} (ht:RTerm w A t v):∀ {s:List Thk.Term} {vs:List Value},RTerms w A s vs→RTerms w A (s++[t]) (vs++[v])
 | [],_,h=>by simp only[RTerms] at h;subst h;simp[RTerms,ht]
 | t'::s,_,h=>by
  simp only[RTerms] at h
  obtain⟨v',vs',rfl,h1,hs⟩:=h
  simp only[List.cons_append,RTerms]
  exact⟨v',vs'++[v],rfl,h1,RTerms.snoc ht hs⟩
theorem RSeqs.snoc {w:World} {A:Nat→Prop} {t:Thk.Seq} {v:Value} (ht:RSeq w A t v):∀ {s:List (List Thk.Term)} {vs:List Value},RSeqs w A s vs→RSeqs w A (s++[t]) (vs++[v])
 | [],_,h=>by
  simp only[RSeqs] at h;subst h
  simp only[List.nil_append,RSeqs]
  exact⟨v,[],rfl,ht,rfl⟩
 | t'::s,_,h=>by
  simp only[RSeqs] at h
  obtain⟨v',vs',rfl,h1,hs⟩:=h
  simp only[List.cons_append,RSeqs]
  exact⟨v',vs'++[v],rfl,h1,RSeqs.snoc ht hs⟩
def EndErr (rb tb tc:Nat) (ps:List (Thk.Tok × Value)) (d:Nat) (zero:Value) (er p:Nat) (e:Ending) (w':World):Prop:=
 e = .returned (.tuple #[zero,zal er p])∧∃ n',Rd w' rb tb tc ps n' d
def PieceEnd (w:World) (rb tb tc:Nat) (ps:List (Thk.Tok × Value)) (n d:Nat) (e:Ending) (w':World):Thk.Res Thk.Piece→Prop
 | .ok p rest=>∃ n' v,rest=tsOf ps n'∧n<n'∧n'<ps.length∧e = .returned (.tuple #[v,.nilIface])∧RPiece w' (w.heap.size≤·) p v∧Rd w' rb tb tc ps n' d
 | .err er p=>EndErr rb tb tc ps d .nilIface er p e w'
def zbI (w:World) (rb tb tc:Nat) (ps:List (Thk.Tok × Value)) (n d:Nat) (e:Ending) (w':World):Prop:=
 ∃ res,Thk.PPiece d (tsOf ps n) res∧Kp rb w.heap.size w w'∧PieceEnd w rb tb tc ps n d e w' res
def ChoiceEnd (w:World) (rb tb tc:Nat) (ps:List (Thk.Tok × Value)) (n d:Nat) (e:Ending) (w':World):Thk.Res Thk.zat→Prop
 | .ok c rest=>∃ n' a l cp,rest=tsOf ps n'∧n≤n'∧n'<ps.length∧e = .returned (.tuple #[.slice a l cp,.nilIface])∧RChoice w' (w.heap.size≤·) c (.slice a l cp)∧Rd w' rb tb tc ps n' d
 | .err er p=>EndErr rb tb tc ps d (.slice none 0 0) er p e w'
def ChoicePost (w:World) (rb tb tc:Nat) (ps:List (Thk.Tok × Value)) (n d:Nat) (e:Ending) (w':World):Prop:=
 ∃ res,Thk.PChoice d (tsOf ps n) res∧Kp rb w.heap.size w w'∧ChoiceEnd w rb tb tc ps n d e w' res
def zc8 (rb tb tc:Nat) (ps:List (Thk.Tok × Value)) (R:Nat):Prop:=
 ∀ (w:World) (n d:Nat),Rd w rb tb tc ps n d→n<ps.length→ps.length - n≤R→d≤6 →
  Calls Tryz.prog 163 #[.pointer (some ⟨rb,0,none⟩)] w fun e w'=>ChoicePost w rb tb tc ps n d e w'
theorem ze5 (bb rb:Nat) (u:FrameMode) (w:World) (d:Nat) (hc:w.cell? ⟨bb,0,none⟩=some (.pointer (some ⟨rb,0,none⟩))) (hr:w.cell? ⟨rb,2,none⟩=some (.int .i64 ↑(d+1))) (hz:w.frozen? ⟨rb,2,none⟩=false) (hd:d≤6) :
  CallsD Tryz.prog 221 #[.pointer (some ⟨bb,0,none⟩)] u w fun e u' w'=>u'=u∧(e = .returned (.tuple #[])∧w'=w.setCell ⟨rb,2,none⟩ (.int .i64 d)):=by
 have hr':w.cell? ⟨rb,2,none⟩=some (.int .i64 (d+1)):=hr
 clear hr
 go_enter_d Tryz.func221,Tryz.ntmps221
 go_wp2
 go_end0
 exact⟨rfl,rfl⟩
theorem group_deep (w:World) (rb tb tc:Nat) (ps:List (Thk.Tok × Value)) (n:Nat) (h:Rd w rb tb tc ps n 6) (hn:n<ps.length) :
  Calls Tryz.prog 214 #[.pointer (some ⟨rb,0,none⟩)] w fun e w'=>e = .returned (.tuple #[.nilIface,zal 3 ps[n].1.place])∧Rd w' rb tb tc ps n 6∧Kp rb w.heap.size w w':=by
 have hmf:∀ (fn:Fn) (first cap:Array Value) (w:World),(Instr.makeFunc fn first cap).run Tryz.prog w = .ok (.func fn first cap) w:=fun _ _ _ _=>rfl
 obtain⟨c0,c1,c2,fz⟩:=h.cells
 have hrl:=h.lt
 have hB:Below w.heap.size w (w.alloc (.cells #[.pointer (some ⟨rb,0,none⟩)] 179)):=za1 _ _
 have hre:=zcW _ rb tb tc ps n 6 (h.below hB) hn 3
 have H:Hid (Rd w rb tb tc ps n 6):=h
 clear h hB
 go_enter_defers Tryz.func214,Tryz.ntmps214
 go_wp2_with (first | (go_at_call 162;refine hre.mono ?_;rintro e w1 ⟨rfl,q,rfl⟩))
 exact⟨_,results_tmp2 rfl _ _ _,rfl,(H.out.below (za1 _ _)).drewN _,((Kp.refl _ _ _).alloc (Nat.le_refl _) _).drewN _⟩
abbrev boxR (rb:Nat):Obj:=.cells #[.pointer (some ⟨rb,0,none⟩)] 179
theorem zbn {rb:Nat} {W w1:World} (hb:Kp rb W.heap.size W w1) {b:Nat} (h1:b<W.heap.size) (h2:b≠rb) (o:Nat):w1.cell? ⟨b,o,none⟩=W.cell? ⟨b,o,none⟩:=
 World.cell?_of_block (w:=W) (a:=⟨b,o,none⟩) (hb.block b h1 h2)
theorem sm_kp {A:Nat→Prop} {rb:Nat} {w w':World} {cs:Array Value} {fr:Nat × Nat} (hr:w.heap[rb]? = some (.cells cs 183 fr)) (hk:Kp rb w.heap.size w w') (hA:∀ g,A g→g≠rb):Sm A w w':=
 ⟨fun _ _ h=>zbB h hr (by decide) hk,fun g hg ha=>hk.block g hg (hA g ha)⟩
theorem kindI_close {k:Thk.TK} (hk:zaV k) (h:k≠.sign 41):kindI k≠41:=by
 cases k with
 | sign c=>intro e;apply h;simp only[kindI] at e;congr 1;apply UInt8.toNat_inj.1;rw[show (41:UInt8).toNat=41 from rfl];omega
 | _=>simp[kindI]
theorem group_any (w:World) (rb tb tc:Nat) (ps:List (Thk.Tok × Value)) (n d:Nat) (h:Rd w rb tb tc ps n d) (hg:GoodP ps) (hn:n<ps.length) (hd:d≤6) (hk:ps[n].1.kind = .sign 40)
  (hC:zc8 rb tb tc ps (ps.length - n - 1)) :
  Calls Tryz.prog 214 #[.pointer (some ⟨rb,0,none⟩)] w fun e w'=>zbI w rb tb tc ps n d e w':=by
 by_cases h6:d=6
 ·subst h6
  refine (group_deep w rb tb tc ps n h hn).mono ?_
  rintro e w' ⟨rfl,hr,hkp⟩
  exact⟨.err 3 ps[n].1.place,by rw[← zai hn];exact .deep (by rw[zai hn];exact hk),hkp,rfl,n,hr⟩
 have hn1:n+1<ps.length:=(hg n hn).2 (by rw[hk];rfl)
 have t6:((d:Int) == 6)=false:=beq_eq_false_iff_ne.2 (by omega)
 have hmf:∀ (fn:Fn) (first cap:Array Value) (w:World),(Instr.makeFunc fn first cap).run Tryz.prog w = .ok (.func fn first cap) w:=fun _ _ _ _=>rfl
 obtain⟨c0,c1,c2,fz⟩:=h.cells
 have hrl:=h.lt
 have hl:=h.2.2.1
 have hR1:Rd (((w.setCell ⟨rb,1,none⟩ (.int .i64 ((n:Int)+1))).setCell ⟨rb,2,none⟩ (.int .i64 ((d:Int)+1))).alloc (boxR rb)) rb tb tc ps (n+1) (d+1):=((h.set1 (n+1)).set2 (d+1)).below (za1 _ _)
 have hch:=hC _ (n+1) (d+1) hR1 hn1 (by omega) (by omega)
 have hks:(Thk.hd (tsOf ps n)).kind = .sign 40:=by rw[zai hn];exact hk
 have hK1:Kp rb w.heap.size w (((w.setCell ⟨rb,1,none⟩ (.int .i64 ((n:Int)+1))).setCell ⟨rb,2,none⟩ (.int .i64 ((d:Int)+1))).alloc (boxR rb)):=(((Kp.refl _ _ _).setRb _ _).setRb _ _).alloc (by simp) _
 have hsz1:(((w.setCell ⟨rb,1,none⟩ (.int .i64 ((n:Int)+1))).setCell ⟨rb,2,none⟩ (.int .i64 ((d:Int)+1))).alloc (boxR rb)).heap.size=w.heap.size+1:=by simp
 have hbx:(((w.setCell ⟨rb,1,none⟩ (.int .i64 ((n:Int)+1))).setCell ⟨rb,2,none⟩ (.int .i64 ((d:Int)+1))).alloc (boxR rb)).cell? ⟨w.heap.size,0,none⟩=some (.pointer (some ⟨rb,0,none⟩)):=by
  rw[show w.heap.size=((w.setCell ⟨rb,1,none⟩ (.int .i64 ((n:Int)+1))).setCell ⟨rb,2,none⟩ (.int .i64 ((d:Int)+1))).heap.size from by simp,World.cell?_alloc_mark];rfl
 have HK1:=(show Hid _ from hK1)
 clear hK1
 clear hR1 h hC
 go_enter_defers Tryz.func214,Tryz.ntmps214
 go_wp2_with fail
 refine hch.mono ?_
 rintro e w2 ⟨res,hP,hKp,hE⟩
 have hbx2:w2.cell? ⟨w.heap.size,0,none⟩=some (.pointer (some ⟨rb,0,none⟩)):=by
  rw[zbn hKp (by rw[hsz1];omega) (by omega)];exact hbx
 have hsz2:=hKp.size
 rw[hsz1] at hsz2
 have hK2:Kp rb w.heap.size w w2:=HK1.out.trans (hKp.mono (by rw[hsz1];omega))
 have HKp:=(show Hid _ from hKp)
 have HK2:=(show Hid _ from hK2)
 have HP:=(show Hid _ from hP)
 clear hKp hK2 hbx hch HK1 hP
 cases res with
 | err er p=>
  obtain⟨rfl,n',hR⟩:=hE
  obtain⟨r0,r1,r2,rf⟩:=hR.cells
  have H:Hid (Rd w2 rb tb tc ps n' (d+1)):=hR
  clear hR
  simp only[zal]
  go_wp2_with fail
  refine leaves_cons (f:=221) (args:=#[.pointer (some ⟨w.heap.size,0,none⟩)]) (by simp) (by simp[go_sem]) ?_
  refine (ze5 w.heap.size rb .returning _ d hbx2 r2 (rf 2) hd).mono ?_
  rintro e u' w'' ⟨rfl,rfl,rfl⟩
  refine⟨_,results_tmp2 rfl _ _ _,.err er p,?_,HK2.out.setRb _ _,rfl,n',H.out.set2 d⟩
  exact .inner hks h6 (by rw[zaR hn];exact HP.out)
 | ok c rest=>
  obtain⟨n',a,l,cp,rfl,hle,hn',rfl,hRC,hR⟩:=hE
  have hok':=(hg n' hn').1
  by_cases hcl:ps[n'].1.kind = .sign 41
  ·have hex:=ze0 w2 rb tb tc ps n' (d+1) hR hn' 41 (by rw[hcl];rfl)
   have hn1':n'+1<ps.length:=(hg n' hn').2 (by rw[hcl];rfl)
   obtain⟨a0,b0,e0⟩:=za9 (hR.2.1.2 ps[n'] (List.getElem_mem hn'))
   have HRC:Hid (RChoice w2 ((((w.setCell ⟨rb,1,none⟩ (.int .i64 ((n:Int)+1))).setCell ⟨rb,2,none⟩ (.int .i64 ((d:Int)+1))).alloc (boxR rb)).heap.size≤·) c (.slice a l cp)):=hRC
   have HR:Hid (Rd w2 rb tb tc ps n' (d+1)):=hR
   have hrl2:=hR.lt
   simp only[tokV,e0] at hex
   clear hRC hR e0
   go_wp2_with fail
   refine hex.mono ?_
   rintro e w3 ⟨rfl,hR3,hK3⟩
   have hbx3:w3.cell? ⟨w.heap.size,0,none⟩=some (.pointer (some ⟨rb,0,none⟩)):=by
    rw[zbn hK3 (by omega) (by omega)];exact hbx2
   have hsz3:=hK3.size
   obtain⟨r0,r1,r2,rf⟩:=hR3.cells
   have H:Hid (Rd w3 rb tb tc ps (n'+1) (d+1)):=hR3
   have HK3:Hid (Kp rb w2.heap.size w2 w3):=hK3
   clear hR3 hK3 hex
   go_wp2_with fail
   refine leaves_cons (f:=221) (args:=#[.pointer (some ⟨w.heap.size,0,none⟩)]) (by simp) (by simp[go_sem]) ?_
   refine (ze5 w.heap.size rb .returning _ d ?_ ?_ ?_ hd).mono ?_
   ·rw[World.cell?_alloc_lt _ _ _ (by simp only[];omega)];exact hbx3
   ·rw[World.cell?_alloc_lt _ _ _ (by simp only[];omega)];exact r2
   ·rw[World.frozen?_alloc_old _ _ _ (by simp only[];omega)];exact rf 2
   rintro e u' w'' ⟨rfl,rfl,rfl⟩
   refine⟨_,results_tmp2 rfl _ _ _,.ok (.group c) (tsOf ps (n'+1)),?_,?_,n'+1,_,rfl,by omega,hn1',rfl,?_,?_⟩
   ·rw[← zaR hn']
    exact .group hks h6 (by rw[zaR hn];exact HP.out) (by rw[zai hn'];exact hcl)
   ·exact ((HK2.out.trans (HK3.out.mono (by omega))).alloc (by omega) _).setRb _ _
   ·have hA:=HRC.out
    have hK4:Kp rb w2.heap.size w2 ((w3.alloc (.cells #[Value.int IntKind.u8 (kindI ps[n'].1.kind),Value.int IntKind.i64 ↑ps[n'].1.place,Value.string ⟨List.toArray ps[n'].1.text⟩,Value.slice a0 ps[n'].1.spans.length b0] 237)).setCell ⟨rb,2,none⟩ (Value.int IntKind.i64 ↑d)):=(HK3.out.alloc (by omega) _).setRb _ _
    rw[hcl] at hK4
    have hC4:=(hA.kept (sm_kp HR.out.1 hK4 (fun g hg=>by simp at hg;omega))).mono (A':=(w.heap.size≤·)) (fun g _ hg=>by simp at hg;omega)
    obtain⟨us,hRow,hSeqs⟩:=hC4
    simp only[RPiece]
    exact⟨_,us,rfl,hRow,hSeqs⟩
   ·exact (H.out.below (za1 _ _)).set2 d
  ·have hex:=zep w2 rb tb tc ps n' (d+1) hR hn' 41 (kindI_close hok' hcl)
   obtain⟨a0,b0,e0⟩:=za9 (hR.2.1.2 ps[n'] (List.getElem_mem hn'))
   have hrl2:=hR.lt
   simp only[tokV,e0] at hex
   clear hRC hR e0
   go_wp2_with fail
   refine hex.mono ?_
   rintro e w3 ⟨rfl,hR3,hK3⟩
   have hbx3:w3.cell? ⟨w.heap.size,0,none⟩=some (.pointer (some ⟨rb,0,none⟩)):=by
    rw[zbn hK3 (by omega) (by omega)];exact hbx2
   have hsz3:=hK3.size
   obtain⟨r0,r1,r2,rf⟩:=hR3.cells
   have H:Hid (Rd w3 rb tb tc ps n' (d+1)):=hR3
   have HK3:Hid (Kp rb w2.heap.size w2 w3):=hK3
   clear hR3 hK3 hex
   go_wp2_with fail
   refine leaves_cons (f:=221) (args:=#[.pointer (some ⟨w.heap.size,0,none⟩)]) (by simp) (by simp[go_sem]) ?_
   refine (ze5 w.heap.size rb .returning _ d ?_ ?_ ?_ hd).mono ?_
   ·rw[World.cell?_alloc_lt _ _ _ (by simp only[];omega)];exact hbx3
   ·rw[World.cell?_alloc_lt _ _ _ (by simp only[];omega)];exact r2
   ·rw[World.frozen?_alloc_old _ _ _ (by simp only[];omega)];exact rf 2
   rintro e u' w'' ⟨rfl,rfl,rfl⟩
   refine⟨_,results_tmp2 rfl _ _ _,.err 2 ps[n'].1.place,?_,?_,rfl,n',?_⟩
   ·rw[← zai hn']
    exact .unclosed hks h6 (by rw[zaR hn];exact HP.out) (by rw[zai hn'];exact hcl)
   ·exact ((HK2.out.trans (HK3.out.mono (by omega))).alloc (by omega) _).setRb _ _
   ·exact (H.out.below (za1 _ _)).set2 d
theorem piece_plain (w:World) (rb tb tc:Nat) (ps:List (Thk.Tok × Value)) (n d:Nat) (h:Rd w rb tb tc ps n d) (hg:GoodP ps) (hn:n<ps.length) (pc:Thk.Piece) (hp:Thk.zad ps[n].1=some pc) :
  Calls Tryz.prog 206 #[.pointer (some ⟨rb,0,none⟩)] w fun e w'=>zbI w rb tb tc ps n d e w':=by
 have hPP:Thk.PPiece d (tsOf ps n) (.ok pc (tsOf ps (n+1))):=by rw[← zaR hn];exact .plain (by rw[zai hn];exact hp)
 obtain⟨c0,c1,c2,fz⟩:=h.cells
 obtain⟨k0,k1,k2,k3⟩:=h.tok' n hn
 have hl:=h.2.2.1
 have hn':(n:Int)<(ps.length:Int):=by omega
 have hsp:=h.2.1.2 ps[n] (List.getElem_mem hn)
 obtain⟨a0,b0,e0⟩:=za9 hsp
 have hrl:=h.lt
 have HTX:Hid (ps[n].1.text.length≤2000):=h.2.2.2 ps[n] (List.getElem_mem hn)
 have htl:tb<w.heap.size:=((h.2.1.1.lt tb rfl).2)
 have hnl:ps[n].1.kind.last=false:=by
  unfold Thk.zad at hp
  cases hk:ps[n].1.kind with
  | fin=>rw[hk] at hp;cases hp
  | bad=>rw[hk] at hp;cases hp
  | _=>rfl
 have hn1:n+1<ps.length:=(hg n hn).2 hnl
 rw[e0] at k3 hsp
 have H:Hid (Rd w rb tb tc ps n d):=h
 have HSP:Hid (Spans w 0 (.slice a0 ps[n].1.spans.length b0) ps[n].1.spans):=hsp
 have HPP:Hid (Thk.PPiece d (tsOf ps n) (.ok pc (tsOf ps (n+1)))):=hPP
 have fin:∀ (w':World) (v:Value),Kp rb w.heap.size w w'→Rd w' rb tb tc ps (n+1) d→RPiece w' (w.heap.size≤·) pc v→zbI w rb tb tc ps n d (.returned (.tuple #[v,.nilIface])) w':=
  fun w' v h1 h2 h3=>⟨_,hPP,h1,n+1,v,rfl,by omega,hn1,rfl,h3,h2⟩
 have FIN:Hid _:=fin
 clear h hPP hsp fin
 unfold Thk.zad at hp
 cases hk:ps[n].1.kind with
 | name=>
  rw[hk] at hp k0
  simp only[Option.some.injEq] at hp
  subst hp
  simp only[kindI] at k0
  go_enter Tryz.func206,Tryz.ntmps206
  go_wp2_with fail
  go_region
  go_wp2_with fail
  go_ret2
  refine FIN.out _ _ ?_ ?_ ?_
  ·exact ((((Kp.refl _ _ _).setRb _ _).alloc (by simp) _)).drew
  ·exact (H.out.set1 (n+1)).below (za1 _ _).drew
  ·simp only[RPiece];exact⟨rfl,HTX.out⟩
 | lit=>
  rw[hk] at hp k0
  simp only[Option.some.injEq] at hp
  subst hp
  simp only[kindI] at k0
  go_enter Tryz.func206,Tryz.ntmps206
  go_wp2_with fail
  go_region
  go_wp2_with fail
  go_ret2
  refine FIN.out _ _ ?_ ?_ ?_
  ·exact ((((Kp.refl _ _ _).setRb _ _).alloc (by simp) _)).drew
  ·exact (H.out.set1 (n+1)).below (za1 _ _).drew
  ·simp only[RPiece];rfl
 | cls=>
  rw[hk] at hp k0
  simp only[Option.some.injEq] at hp
  subst hp
  simp only[kindI] at k0
  go_enter Tryz.func206,Tryz.ntmps206
  go_wp2_with fail
  go_region
  go_wp2_with fail
  go_ret2
  have hK:Kp rb w.heap.size w ((((w.setCell ⟨rb,1,none⟩ (.int .i64 ((n:Int)+1))).alloc (.cells #[.int .u8 5,.int .i64 ↑ps[n].1.place,.string ⟨List.toArray ps[n].1.text⟩,.slice a0 ps[n].1.spans.length b0] 237))).drew):=((((Kp.refl _ _ _).setRb _ _).alloc (by simp) _)).drew
  refine FIN.out _ _ hK ?_ ?_
  ·exact (H.out.set1 (n+1)).below (za1 _ _).drew
  ·simp only[RPiece]
   exact⟨_,rfl,zbB HSP.out H.out.1 (by decide) hK⟩
 | sign c=>
  rw[hk] at hp k0
  simp only[] at hp
  split at hp
  ·rename_i hc
   subst hc
   simp only[Option.some.injEq] at hp
   subst hp
   simp only[kindI] at k0
   simp at k0
   go_enter Tryz.func206,Tryz.ntmps206
   go_wp2_with fail
   go_region
   go_wp2_with fail
   go_ret2
   refine FIN.out _ _ ?_ ?_ ?_
   ·exact ((((Kp.refl _ _ _).setRb _ _).alloc (by simp) _)).drew
   ·exact (H.out.set1 (n+1)).below (za1 _ _).drew
   ·simp only[RPiece];rfl
  ·cases hp
 | fin=>rw[hk] at hp;cases hp
 | bad=>rw[hk] at hp;cases hp
 | arrow=>rw[hk] at hp;cases hp
theorem piece_group (w:World) (rb tb tc:Nat) (ps:List (Thk.Tok × Value)) (n d:Nat) (h:Rd w rb tb tc ps n d) (hg:GoodP ps) (hn:n<ps.length) (hd:d≤6) (hk:ps[n].1.kind = .sign 40)
  (hC:zc8 rb tb tc ps (ps.length - n - 1)) :
  Calls Tryz.prog 206 #[.pointer (some ⟨rb,0,none⟩)] w fun e w'=>zbI w rb tb tc ps n d e w':=by
 obtain⟨c0,c1,c2,fz⟩:=h.cells
 obtain⟨k0,k1,k2,k3⟩:=h.tok' n hn
 have hl:=h.2.2.1
 have hn':(n:Int)<(ps.length:Int):=by omega
 obtain⟨a0,b0,e0⟩:=za9 (h.2.1.2 ps[n] (List.getElem_mem hn))
 have hrl:=h.lt
 have htl:tb<w.heap.size:=((h.2.1.1.lt tb rfl).2)
 rw[e0] at k3
 rw[hk] at k0
 simp[kindI] at k0
 have H:Hid (Rd w rb tb tc ps n d):=h
 have hgr:=fun w' (hR:Rd w' rb tb tc ps n d)=>group_any w' rb tb tc ps n d hR hg hn hd hk hC
 clear h
 go_enter Tryz.func206,Tryz.ntmps206
 go_wp2_with fail
 go_region
 go_wp2_with fail
 have hB:Below w.heap.size w (w.alloc (.cells #[.int .u8 40,.int .i64 ↑ps[n].1.place,.string ⟨List.toArray ps[n].1.text⟩,.slice a0 ps[n].1.spans.length b0] 237)).drew:=(za1 _ _).drew
 have hsz:(w.alloc (.cells #[.int .u8 40,.int .i64 ↑ps[n].1.place,.string ⟨List.toArray ps[n].1.text⟩,.slice a0 ps[n].1.spans.length b0] 237)).drew.heap.size=w.heap.size+1:=by simp
 refine (hgr _ (H.out.below hB)).mono ?_
 rintro e w2 ⟨res,hP,hKp,hE⟩
 rw[hsz] at hKp
 have hK2:Kp rb w.heap.size w w2:=(Kp.of hB).trans (hKp.mono (by omega))
 clear hgr hKp hB
 cases res with
 | err er p=>
  obtain⟨rfl,n',hR⟩:=hE
  simp only[zal]
  clear hC
  go_wp2_with fail
  go_ret2
  exact⟨_,hP,hK2,rfl,n',hR⟩
 | ok pc rest=>
  obtain⟨n',v,rfl,hlt,hn2,rfl,hRP,hR⟩:=hE
  have hRP2:RPiece w2 (w.heap.size≤·) pc v:=RPiece.mono (fun g _ hg=>by rw[hsz] at hg;omega) pc v hRP
  clear hC hRP
  go_wp2_with fail
  go_ret2
  exact⟨_,hP,hK2,n',v,rfl,hlt,hn2,rfl,hRP2,hR⟩
theorem plain_none {t:Thk.Tok} (hk:zaV t.kind) (h:Thk.zad t=none) (h40:t.kind≠.sign 40) :
  (kindI t.kind == 2)=false∧(kindI t.kind == 4)=false∧(kindI t.kind == 5)=false∧(kindI t.kind == 46)=false∧(kindI t.kind == 40)=false:=by
 unfold Thk.zad at h
 cases hkk:t.kind with
 | name=>rw[hkk] at h;cases h
 | lit=>rw[hkk] at h;cases h
 | cls=>rw[hkk] at h;cases h
 | sign c=>
  rw[hkk] at h hk h40
  simp only[] at h
  have h46:c≠46:=by intro e;rw[if_pos e] at h;cases h
  have hc40:c≠40:=by intro e;apply h40;rw[e]
  have hge:=zcs hk
  refine⟨?_,?_,?_,?_,?_⟩<;>simp only[kindI]<;>apply beq_eq_false_iff_ne.2
  ·omega
  ·omega
  ·omega
  ·intro e;apply h46;apply UInt8.toNat_inj.1;rw[show (46:UInt8).toNat=46 from rfl];omega
  ·intro e;apply hc40;apply UInt8.toNat_inj.1;rw[show (40:UInt8).toNat=40 from rfl];omega
 | _=>simp[kindI]
theorem piece_bad (w:World) (rb tb tc:Nat) (ps:List (Thk.Tok × Value)) (n d:Nat) (h:Rd w rb tb tc ps n d) (hg:GoodP ps) (hn:n<ps.length) (hp:Thk.zad ps[n].1=none) (hk:ps[n].1.kind≠.sign 40) :
  Calls Tryz.prog 206 #[.pointer (some ⟨rb,0,none⟩)] w fun e w'=>zbI w rb tb tc ps n d e w':=by
 obtain⟨c0,c1,c2,fz⟩:=h.cells
 obtain⟨k0,k1,k2,k3⟩:=h.tok' n hn
 have hl:=h.2.2.1
 have hn':(n:Int)<(ps.length:Int):=by omega
 obtain⟨a0,b0,e0⟩:=za9 (h.2.1.2 ps[n] (List.getElem_mem hn))
 have hrl:=h.lt
 have htl:tb<w.heap.size:=((h.2.1.1.lt tb rfl).2)
 rw[e0] at k3
 obtain⟨t1,t2,t3,t4,t5⟩:=plain_none (hg n hn).1 hp hk
 have H:Hid (Rd w rb tb tc ps n d):=h
 have HPP:Hid (Thk.PPiece d (tsOf ps n) (.err 2 ps[n].1.place)):=by
  show Thk.PPiece d (tsOf ps n) (.err 2 ps[n].1.place)
  rw[← zai hn];exact .bad (by rw[zai hn];exact hp) (by rw[zai hn];exact hk)
 have hre:=fun w' (hR:Rd w' rb tb tc ps n d)=>zcW w' rb tb tc ps n d hR hn 2
 clear h hp hk
 generalize kindI ps[n].1.kind=K at *
 go_enter Tryz.func206,Tryz.ntmps206
 go_wp2_with fail
 go_region
 go_wp2_with fail
 have hB:Below w.heap.size w (w.alloc (.cells #[.int .u8 K,.int .i64 ↑ps[n].1.place,.string ⟨List.toArray ps[n].1.text⟩,.slice a0 ps[n].1.spans.length b0] 237)).drew:=(za1 _ _).drew
 refine (hre _ (H.out.below hB)).mono ?_
 rintro e w2 ⟨rfl,q,rfl⟩
 clear hre
 go_wp2_with fail
 go_ret2
 exact⟨_,HPP.out,(Kp.of (za1 _ _)).drewN _,rfl,n,(H.out.below (za1 _ _)).drewN _⟩
theorem piece_any (w:World) (rb tb tc:Nat) (ps:List (Thk.Tok × Value)) (n d:Nat) (h:Rd w rb tb tc ps n d) (hg:GoodP ps) (hn:n<ps.length) (hd:d≤6)
  (hC:zc8 rb tb tc ps (ps.length - n - 1)) :
  Calls Tryz.prog 206 #[.pointer (some ⟨rb,0,none⟩)] w fun e w'=>zbI w rb tb tc ps n d e w':=by
 cases hp:Thk.zad ps[n].1 with
 | some pc=>exact piece_plain w rb tb tc ps n d h hg hn pc hp
 | none=>
  by_cases hk:ps[n].1.kind = .sign 40
  ·exact piece_group w rb tb tc ps n d h hg hn hd hk hC
  ·exact piece_bad w rb tb tc ps n d h hg hn hp hk
theorem zbO {k:Thk.TK} (hk:zaV k) {c:UInt8} (hc : 33≤c.toNat) (h:(c.toNat:Int)=kindI k):k = .sign c:=by
 cases k with
 | sign b=>congr 1;apply UInt8.toNat_inj.1;simp only[kindI] at h;omega
 | _=>simp only[kindI] at h;omega
theorem hit_ahead {ps:List (Thk.Tok × Value)} {n:Nat} (hn:n<ps.length) (hg:GoodP ps) :
  (hitK [38,33] (kindI ps[n].1.kind)=true→∃ a:UInt8,kindI ps[n].1.kind=a.toNat∧Thk.zao (tsOf ps n)=(a,tsOf ps (n+1))∧n+1<ps.length) ∧
  (hitK [38,33] (kindI ps[n].1.kind)=false→Thk.zao (tsOf ps n)=(0,tsOf ps n)):=by
 obtain⟨hok,hnx⟩:=hg n hn
 constructor
 ·intro h
  simp only[hitK,List.any_cons,List.any_nil,Bool.or_false,Bool.or_eq_true,beq_iff_eq] at h
  rcases h with h | h
  ·have hk:=zbO hok (by decide) h
   refine⟨38,h.symm,?_,hnx (by rw[hk];rfl)⟩
   unfold Thk.zao;rw[zai hn,hk,zaR hn];rfl
  ·have hk:=zbO hok (by decide) h
   refine⟨33,h.symm,?_,hnx (by rw[hk];rfl)⟩
   unfold Thk.zao;rw[zai hn,hk,zaR hn];rfl
 ·intro h
  simp only[hitK,List.any_cons,List.any_nil,Bool.or_false,Bool.or_eq_false_iff,beq_eq_false_iff_ne] at h
  unfold Thk.zao
  rw[zai hn]
  cases hk:ps[n].1.kind with
  | sign c=>
   rw[hk] at h
   simp only[kindI] at h
   simp only[]
   rw[if_neg]
   rintro (rfl | rfl)
   ·exact h.1 rfl
   ·exact h.2 rfl
  | _=>rfl
theorem hit_behind {ps:List (Thk.Tok × Value)} {n:Nat} (hn:n<ps.length) (hg:GoodP ps) :
  (hitK [63,42,43] (kindI ps[n].1.kind)=true→∃ a:UInt8,kindI ps[n].1.kind=a.toNat∧Thk.zak (tsOf ps n)=(a,tsOf ps (n+1))∧n+1<ps.length) ∧
  (hitK [63,42,43] (kindI ps[n].1.kind)=false→Thk.zak (tsOf ps n)=(0,tsOf ps n)):=by
 obtain⟨hok,hnx⟩:=hg n hn
 constructor
 ·intro h
  simp only[hitK,List.any_cons,List.any_nil,Bool.or_false,Bool.or_eq_true,beq_iff_eq] at h
  rcases h with h | h | h
  ·have hk:=zbO hok (by decide) h
   refine⟨63,h.symm,?_,hnx (by rw[hk];rfl)⟩
   unfold Thk.zak;rw[zai hn,hk,zaR hn];rfl
  ·have hk:=zbO hok (by decide) h
   refine⟨42,h.symm,?_,hnx (by rw[hk];rfl)⟩
   unfold Thk.zak;rw[zai hn,hk,zaR hn];rfl
  ·have hk:=zbO hok (by decide) h
   refine⟨43,h.symm,?_,hnx (by rw[hk];rfl)⟩
   unfold Thk.zak;rw[zai hn,hk,zaR hn];rfl
 ·intro h
  simp only[hitK,List.any_cons,List.any_nil,Bool.or_false,Bool.or_eq_false_iff,beq_eq_false_iff_ne] at h
  unfold Thk.zak
  rw[zai hn]
  cases hk:ps[n].1.kind with
  | sign c=>
   rw[hk] at h
   simp only[kindI] at h
   simp only[]
   rw[if_neg]
   rintro (rfl | rfl | rfl)
   ·exact h.1 rfl
   ·exact h.2.1 rfl
   ·exact h.2.2 rfl
  | _=>rfl
def SignPost (f:List Thk.Tok→UInt8 × List Thk.Tok) (w:World) (rb tb tc:Nat) (ps:List (Thk.Tok × Value)) (n d:Nat) (e:Ending) (w':World):Prop:=
 ∃ (a:UInt8) (n1:Nat),e = .returned (.int .u8 a.toNat)∧f (tsOf ps n)=(a,tsOf ps n1)∧n≤n1∧n1<ps.length∧Rd w' rb tb tc ps n1 d∧Kp rb w.heap.size w w'
theorem sign_ahead (w:World) (rb tb tc:Nat) (ps:List (Thk.Tok × Value)) (n d:Nat) (h:Rd w rb tb tc ps n d) (hg:GoodP ps) (hn:n<ps.length) (kb:Nat)
  (h0:w.cell? ⟨kb,0,none⟩=some (.int .u8 38)) (h1:w.cell? ⟨kb,1,none⟩=some (.int .u8 33)) :
  Calls Tryz.prog 205 #[.pointer (some ⟨rb,0,none⟩),.slice (some ⟨kb,0,none⟩) 2 2] w fun e w'=>SignPost Thk.zao w rb tb tc ps n d e w':=by
 refine (sign_any w rb tb tc ps n d h hn _ rfl [38,33] kb (by decide) ?_).mono ?_
 ·intro i hi
  match i,hi with
  | 0,_=>exact h0
  | 1,_=>exact h1
 rintro e w' ⟨hy,hno,hk⟩
 obtain⟨ha,hb⟩:=hit_ahead hn hg
 cases hx:hitK [38,33] (kindI ps[n].1.kind) with
 | true=>
  obtain⟨a,e1,e2,e3⟩:=ha hx
  obtain⟨rfl,hR⟩:=hy hx
  exact⟨a,n+1,by rw[e1],e2,by omega,e3,hR,hk⟩
 | false=>
  obtain⟨rfl,hR⟩:=hno hx
  exact⟨0,n,rfl,hb hx,by omega,hn,hR,hk⟩
theorem sign_behind (w:World) (rb tb tc:Nat) (ps:List (Thk.Tok × Value)) (n d:Nat) (h:Rd w rb tb tc ps n d) (hg:GoodP ps) (hn:n<ps.length) (kb:Nat)
  (h0:w.cell? ⟨kb,0,none⟩=some (.int .u8 63)) (h1:w.cell? ⟨kb,1,none⟩=some (.int .u8 42)) (h2:w.cell? ⟨kb,2,none⟩=some (.int .u8 43)) :
  Calls Tryz.prog 205 #[.pointer (some ⟨rb,0,none⟩),.slice (some ⟨kb,0,none⟩) 3 3] w fun e w'=>SignPost Thk.zak w rb tb tc ps n d e w':=by
 refine (sign_any w rb tb tc ps n d h hn _ rfl [63,42,43] kb (by decide) ?_).mono ?_
 ·intro i hi
  match i,hi with
  | 0,_=>exact h0
  | 1,_=>exact h1
  | 2,_=>exact h2
 rintro e w' ⟨hy,hno,hk⟩
 obtain⟨ha,hb⟩:=hit_behind hn hg
 cases hx:hitK [63,42,43] (kindI ps[n].1.kind) with
 | true=>
  obtain⟨a,e1,e2,e3⟩:=ha hx
  obtain⟨rfl,hR⟩:=hy hx
  exact⟨a,n+1,by rw[e1],e2,by omega,e3,hR,hk⟩
 | false=>
  obtain⟨rfl,hR⟩:=hno hx
  exact⟨0,n,rfl,hb hx,by omega,hn,hR,hk⟩
abbrev zTerm:Value:=.agg #[.int .u8 0,.nilIface,.int .u8 0]
def TermEnd (w:World) (rb tb tc:Nat) (ps:List (Thk.Tok × Value)) (n d:Nat) (e:Ending) (w':World):Thk.Res Thk.Term→Prop
 | .ok (.mk a p b) rest=>∃ n' v,rest=tsOf ps n'∧n<n'∧n'<ps.length∧e = .returned (.tuple #[.agg #[.int .u8 a.toNat,v,.int .u8 b.toNat],.nilIface])∧RPiece w' (w.heap.size≤·) p v∧Rd w' rb tb tc ps n' d
 | .err er p=>EndErr rb tb tc ps d zTerm er p e w'
def TermPost (w:World) (rb tb tc:Nat) (ps:List (Thk.Tok × Value)) (n d:Nat) (e:Ending) (w':World):Prop:=
 ∃ res,Thk.PTerm d (tsOf ps n) res∧Kp rb w.heap.size w w'∧TermEnd w rb tb tc ps n d e w' res
theorem RPiece.oneCell {w:World} {A:Nat→Prop} {p:Thk.Piece} {v:Value} (h:RPiece w A p v):∃ t x,v = .iface t x:=by
 cases p<;>simp only[RPiece] at h
 ·exact⟨_,_,h.1⟩
 ·exact⟨_,_,h⟩
 ·obtain⟨_,h,_⟩:=h;exact⟨_,_,h⟩
 ·exact⟨_,_,h⟩
 ·obtain⟨_,_,h,_⟩:=h;exact⟨_,_,h⟩
theorem zcN {w w':World} {base b:Nat} {e e':TypeId} {size:Nat} {v:Value} {n:Nat} {xs:List Value} {cs:Array Value} {fr:Nat × Nat} (h:w.ownsRow base e size v n xs)
  (hb:∀ g,g≠b→g<w.heap.size→w'.heap[g]? = w.heap[g]?) (ht:w.heap[b]? = some (.cells cs e' fr)) (he:e≠e'):w'.ownsRow base e size v n xs:=by
 refine zah h (fun g hg=>hb g ?_ (h.lt g hg).2)
 intro e1
 subst e1
 rcases h.2 with ⟨rfl,_⟩ | ⟨g',cap,cur,rfl,_,hc,_⟩
 ·simp[Value.ownBlock] at hg
 ·simp[Value.ownBlock] at hg
  subst hg
  rw[hc] at ht
  simp at ht
  exact he ht.2.1
theorem Rd.other {w w':World} {rb tb tc b:Nat} {ps:List (Thk.Tok × Value)} {n d:Nat} {cs:Array Value} {fr:Nat × Nat} {e':TypeId} (h:Rd w rb tb tc ps n d)
  (hb:∀ g,g≠b→g<w.heap.size→w'.heap[g]? = w.heap[g]?) (ht:w.heap[b]? = some (.cells cs e' fr)) (h1 : 183≠e') (h2 : 237≠e') (h3 : 313≠e'):Rd w' rb tb tc ps n d:=by
 refine⟨?_,⟨zcN h.2.1.1 hb ht h2,fun p hp=>zcN (h.2.1.2 p hp) hb ht h3⟩,h.2.2⟩
 rw[hb rb ?_ h.lt]
 ·exact h.1
 ·intro e;subst e
  have:=h.1
  rw[ht] at this
  simp at this
  exact h1 this.2.1.symm
theorem za4 (w:World) (o:Obj):(w.alloc o).heap[w.heap.size]? = some o:=by
 show (w.heap.push o)[w.heap.size]? = _
 simp
theorem za5 (w:World) (o:Obj) {b:Nat} (h:b<w.heap.size):(w.alloc o).heap[b]? = w.heap[b]? := Below.heap_alloc w o b h
abbrev zc2:Obj:=.cells #[.int .u8 0,.nilIface,.int .u8 0] 249
abbrev aheadO:Obj:=.cells #[.int .u8 38,.int .u8 33] 234
abbrev behindO:Obj:=.cells #[.int .u8 63,.int .u8 42,.int .u8 43] 234
theorem PieceEnd.form {w:World} {rb tb tc:Nat} {ps:List (Thk.Tok × Value)} {n d:Nat} {e:Ending} {w':World} {pc:Thk.Piece} {rest:List Thk.Tok} (h:PieceEnd w rb tb tc ps n d e w' (.ok pc rest)) :
  ∃ n' t x,rest=tsOf ps n'∧n<n'∧n'<ps.length∧e = .returned (.tuple #[.iface t x,.nilIface])∧RPiece w' (w.heap.size≤·) pc (.iface t x)∧Rd w' rb tb tc ps n' d:=by
 obtain⟨n',v,h1,h2,h3,h4,h5,h6⟩:=h
 obtain⟨t,x,rfl⟩:=RPiece.oneCell h5
 exact⟨n',t,x,h1,h2,h3,h4,h5,h6⟩
theorem term_any (w:World) (rb tb tc:Nat) (ps:List (Thk.Tok × Value)) (n d:Nat) (h:Rd w rb tb tc ps n d) (hg:GoodP ps) (hn:n<ps.length) (hd:d≤6)
  (R:Nat) (hR:ps.length - n≤R) (hC:∀ R',R'<R→zc8 rb tb tc ps R') :
  Calls Tryz.prog 196 #[.pointer (some ⟨rb,0,none⟩)] w fun e w'=>TermPost w rb tb tc ps n d e w':=by
 have hrl:=h.lt
 have hB1:Below w.heap.size w ((w.alloc zc2).alloc aheadO):=(za1 _ _).alloc (by simp) _
 have hsg:=sign_ahead _ rb tb tc ps n d (h.below hB1) hg hn (w.heap.size+1) (by simp) (by simp)
 have HB1:Hid (Below w.heap.size w ((w.alloc zc2).alloc aheadO)):=hB1
 have hsz1:((w.alloc zc2).alloc aheadO).heap.size=w.heap.size+2:=by simp
 have hrc1:((w.alloc zc2).alloc aheadO).heap[w.heap.size]? = some zc2:=by
  rw[za5 _ _ (by simp)];exact za4 _ _
 have hpc:∀ w' n1,Rd w' rb tb tc ps n1 d→n≤n1→n1<ps.length→Calls Tryz.prog 206 #[.pointer (some ⟨rb,0,none⟩)] w' fun e w''=>zbI w' rb tb tc ps n1 d e w'':=
  fun w' n1 hr h1 h2=>piece_any w' rb tb tc ps n1 d hr hg h2 hd (hC _ (by omega))
 clear h hB1 hC
 go_enter Tryz.func196,Tryz.ntmps196
 go_wp2_with fail
 refine hsg.mono ?_
 rintro e w2 ⟨a,n1,rfl,ha,hle1,hn1,hR2,hK2⟩
 have hrc2:w2.heap[w.heap.size]? = some zc2:=by rw[hK2.block _ (by rw[hsz1];omega) (by omega)];exact hrc1
 have hsz2:=hK2.size
 rw[hsz1] at hsz2
 have hKw2:Kp rb w.heap.size w w2:=(Kp.of HB1.out).trans (hK2.mono (by rw[hsz1];omega))
 have hp2:=hpc w2 n1 hR2 hle1 hn1
 have HR2:Hid (Rd w2 rb tb tc ps n1 d):=hR2
 have HKw2:Hid (Kp rb w.heap.size w w2):=hKw2
 have HA:Hid (Thk.zao (tsOf ps n)=(a,tsOf ps n1)):=ha
 clear hK2 hrc1 hsg hpc HB1 hR2 hKw2 ha
 go_wp2_with fail
 refine hp2.mono ?_
 rintro e w3 ⟨res,hP,hK3,hE⟩
 have hrc3:w3.heap[w.heap.size]? = some zc2:=by rw[hK3.block _ (by omega) (by omega)];exact hrc2
 have hsz3:=hK3.size
 have hKw3:Kp rb w.heap.size w w3:=HKw2.out.trans (hK3.mono (by omega))
 clear hp2 hrc2 hK3
 have q3:=za0 hrc3
 have f3:=za2 hrc3
 have hlt3:w.heap.size<w3.heap.size:=by omega
 have HP:Hid (Thk.PPiece d (tsOf ps n1) res):=hP
 have HK3:Hid (Kp rb w.heap.size w w3):=hKw3
 have HRC3:Hid (w3.heap[w.heap.size]? = some zc2):=hrc3
 clear hP hKw3 hrc3
 cases res with
 | err er p=>
  obtain⟨rfl,n',hR⟩:=hE
  simp only[zal]
  have H:Hid (Rd w3 rb tb tc ps n' d):=hR
  clear hR
  go_wp2_with fail
  refine bodyPost_ret (v:=.tuple #[zTerm,zal er p]) (by simp[results,Tryz.results196,go_sem,zal,q3]) rfl ?_
  refine⟨.err er p,.err (by rw[HA.out];exact HP.out),((HK3.out.setCell (Nat.le_refl _) _).setCell (Nat.le_refl _) _).setCell (Nat.le_refl _) _,rfl,n',?_⟩
  refine H.out.other (b:=w.heap.size) (fun g hg _=>?_) HRC3.out (by decide) (by decide) (by decide)
  rw[Below.heap_setCell _ _ _ _ hg,Below.heap_setCell _ _ _ _ hg,Below.heap_setCell _ _ _ _ hg]
 | ok pc rest=>
  obtain⟨n',t,x,rfl,hlt,hn2,rfl,hRP,hR⟩:=hE.form
  clear hE
  have hB4:Below w3.heap.size w3 (w3.alloc behindO):=za1 _ _
  have hsz4:(w3.alloc behindO).heap.size=w3.heap.size+1:=by simp
  have hsg:=sign_behind (w3.alloc behindO) rb tb tc ps n' d (hR.below hB4) hg hn2 w3.heap.size (by simp) (by simp) (by simp)
  have HRP:Hid (RPiece w3 (w2.heap.size≤·) pc (.iface t x)):=hRP
  have H3:Hid (Rd w3 rb tb tc ps n' d):=hR
  clear hRP hR
  go_wp2_with fail
  refine hsg.mono ?_
  rintro e w4 ⟨b,n4,rfl,hb,hle4,hn4,hR4,hK4⟩
  rw[hsz4] at hK4
  have hrc4:w4.heap[w.heap.size]? = some zc2:=by
   rw[hK4.block _ (by omega) (by omega),za5 _ _ hlt3];exact HRC3.out
  have hsz5:=hK4.size
  rw[hsz4] at hsz5
  have hKw4:Kp rb w.heap.size w w4:=(HK3.out.alloc (by omega) behindO).trans (hK4.mono (by omega))
  have q4:=za0 hrc4
  have f4:=za2 hrc4
  have hlt4:w.heap.size<w4.heap.size:=by omega
  have HK34:Hid (Kp rb w3.heap.size w3 w4):=(Kp.of hB4).trans (hK4.mono (by omega))
  have HB:Hid (Thk.zak (tsOf ps n')=(b,tsOf ps n4)):=hb
  have H4:Hid (Rd w4 rb tb tc ps n4 d):=hR4
  have HKw4:Hid (Kp rb w.heap.size w w4):=hKw4
  have HRC4:Hid (w4.heap[w.heap.size]? = some zc2):=hrc4
  clear hb hR4 hKw4 hrc4 hsg hB4 hK4 q3 f3
  go_wp2_with fail
  refine bodyPost_ret (v:=.tuple #[.agg #[.int .u8 a.toNat,.iface t x,.int .u8 b.toNat],.nilIface]) (by simp[results,Tryz.results196,go_sem,q4]) rfl ?_
  have hot:∀ g,g≠w.heap.size→g<w4.heap.size→(((w4.setCell ⟨w.heap.size,0,none⟩ (.int .u8 a.toNat)).setCell ⟨w.heap.size,1,none⟩ (.iface t x)).setCell ⟨w.heap.size,2,none⟩ (.int .u8 b.toNat)).heap[g]? = w4.heap[g]? := by
   intro g hg _
   rw[Below.heap_setCell _ _ _ _ hg,Below.heap_setCell _ _ _ _ hg,Below.heap_setCell _ _ _ _ hg]
  have hPT:Thk.PTerm d (tsOf ps n) (.ok (.mk a pc b) (tsOf ps n4)):=by
   have:=Thk.PTerm.ok (d:=d) (ts:=tsOf ps n) (p:=pc) (rest:=tsOf ps n') (by rw[HA.out];exact HP.out)
   rw[HA.out,HB.out] at this
   exact this
  refine⟨_,hPT,((HKw4.out.setCell (Nat.le_refl _) _).setCell (Nat.le_refl _) _).setCell (Nat.le_refl _) _,n4,_,rfl,by omega,hn4,rfl,?_,?_⟩
  ·have h34:=RPiece.kept (sm_kp H3.out.1 HK34.out (fun g hg=>by omega)) pc _ HRP.out
   have hs:Sm (w2.heap.size≤·) w4 _:=⟨fun u l hl=>zcN hl hot HRC4.out (by decide),fun g hg ha=>hot g (by omega) hg⟩
   exact RPiece.mono (fun g _ hg=>by omega) pc _ (RPiece.kept hs pc _ h34)
  ·exact H4.out.other (b:=w.heap.size) hot HRC4.out (by decide) (by decide) (by decide)
theorem zam {w:World} {base:Nat} {e:TypeId} {sz:Nat} {v:Value} {n:Nat} {xs:List Value} (h:w.ownsRow base e sz v n xs) {g:Nat} (hg:v.ownBlock=some g):∃ cur,w.heap[g]? = some (.cells cur e (0,0)):=by
 rcases h.2 with ⟨rfl,_⟩ | ⟨g',cap,cur,rfl,_,hc,_⟩
 ·simp[Value.ownBlock] at hg
 ·simp[Value.ownBlock] at hg;subst hg;exact⟨cur,hc⟩
theorem own_but {w w':World} {b0 base:Nat} {e0 e:TypeId} {sz0 sz:Nat} {u v:Value} {n0 n:Nat} {xs0 xs:List Value} (h:w.ownsRow b0 e0 sz0 u n0 xs0) (hv:w.ownsRow base e sz v n xs)
  (hb:∀ g,some g≠v.ownBlock→g<w.heap.size→w'.heap[g]? = w.heap[g]?) (he:e0≠e):w'.ownsRow b0 e0 sz0 u n0 xs0:=by
 refine zah h (fun g hg=>hb g ?_ (h.lt g hg).2)
 intro e1
 obtain⟨c1,h1⟩:=zam h hg
 obtain⟨c2,h2⟩:=zam hv e1.symm
 rw[h1] at h2
 simp at h2
 exact he h2.2
theorem Rd.but {w w':World} {rb tb tc base:Nat} {ps:List (Thk.Tok × Value)} {k d:Nat} {e:TypeId} {sz:Nat} {v:Value} {n:Nat} {xs:List Value} (h:Rd w rb tb tc ps k d) (hv:w.ownsRow base e sz v n xs)
  (hb:∀ g,some g≠v.ownBlock→g<w.heap.size→w'.heap[g]? = w.heap[g]?) (h1 : 183≠e) (h2 : 237≠e) (h3 : 313≠e):Rd w' rb tb tc ps k d:=by
 refine⟨?_,⟨own_but h.2.1.1 hv hb h2,fun p hp=>own_but (h.2.1.2 p hp) hv hb h3⟩,h.2.2⟩
 rw[hb rb ?_ h.lt]
 ·exact h.1
 ·intro e1
  obtain⟨c2,h2⟩:=zam hv e1.symm
  have:=h.1
  rw[h2] at this
  simp at this
  exact h1 this.2.symm
theorem zdT {w w':World} {base:Nat} {e:TypeId} {sz:Nat} {v:Value} {n:Nat} {xs:List Value} (hv:w.ownsRow base e sz v n xs)
  (hb:∀ g,some g≠v.ownBlock→g<w.heap.size→w'.heap[g]? = w.heap[g]?) (h3 : 313≠e) {A:Nat→Prop} (hA:∀ g,A g→some g≠v.ownBlock):Sm A w w':=
 ⟨fun _ _ h=>own_but h hv hb h3,fun g hg ha=>hb g (hA g ha) hg⟩
theorem zeb {w1 w5:World} {O1 O2:Obj} {row:Option Nat} (hg:((w1.alloc O1).alloc O2).grownBy w5 row):∀ g,some g≠row→g<w1.heap.size→w5.heap[g]? = w1.heap[g]? := by
 intro g h1 h2
 rw[hg.block g (by simp;omega) h1,za5 _ _ (by simp;omega),za5 _ _ h2]
theorem grown1_blocks {w1 w5:World} {O1:Obj} {row:Option Nat} (hg:(w1.alloc O1).grownBy w5 row):∀ g,some g≠row→g<w1.heap.size→w5.heap[g]? = w1.heap[g]? := by
 intro g h1 h2
 rw[hg.block g (by simp;omega) h1,za5 _ _ h2]
def preS (s:Thk.Seq):Thk.Res Thk.Seq→Thk.Res Thk.Seq:=Thk.Res.map (s ++ ·)
def SeqEnd (w:World) (rb tb tc:Nat) (ps:List (Thk.Tok × Value)) (n d:Nat) (e:Ending) (w':World):Thk.Res Thk.Seq→Prop
 | .ok s rest=>∃ n' a l cp,rest=tsOf ps n'∧n≤n'∧n'<ps.length∧e = .returned (.tuple #[.slice a l cp,.nilIface])∧RSeq w' (w.heap.size≤·) s (.slice a l cp)∧Rd w' rb tb tc ps n' d
 | .err er p=>EndErr rb tb tc ps d (.slice none 0 0) er p e w'
def SeqPost (w:World) (rb tb tc:Nat) (ps:List (Thk.Tok × Value)) (n d:Nat) (e:Ending) (w':World):Prop:=
 ∃ res,Thk.PSeq d (tsOf ps n) res∧Kp rb w.heap.size w w'∧SeqEnd w rb tb tc ps n d e w' res
structure SeqRel (w:World) (rb tb tc:Nat) (ps:List (Thk.Tok × Value)) (n d k:Nat) (s:Thk.Seq) (vs:List Value) (v:Value) (wr:World):Prop where
 le:n≤k
 lt:k<ps.length
 len:s.length≤k - n
 own:wr.ownsRow w.heap.size 249 3 v s.length (termC s vs)
 terms:RTerms wr (fun g=>w.heap.size≤g∧some g≠v.ownBlock) s vs
 rd:Rd wr rb tb tc ps k d
 kp:Kp rb w.heap.size w wr
 goes:∀ r,Thk.PSeq d (tsOf ps k) r→Thk.PSeq d (tsOf ps n) (preS s r)
theorem SeqRel.next {w:World} {rb tb tc:Nat} {ps:List (Thk.Tok × Value)} {n d k:Nat} {s:Thk.Seq} {vs:List Value} {v:Value} {wr:World} (h:SeqRel w rb tb tc ps n d k s vs v wr) (hrl:rb<w.heap.size)
  {a b:UInt8} {pc:Thk.Piece} {x:Value} {k':Nat} {w1 w5:World} {v':Value} {O1 O2:Obj} (hbg:Thk.zap d (tsOf ps k)=true) (hT:Thk.PTerm d (tsOf ps k) (.ok (.mk a pc b) (tsOf ps k'))) (hk:k<k') (hk':k'<ps.length)
  (hK:Kp rb wr.heap.size wr w1) (hP:RPiece w1 (wr.heap.size≤·) pc x) (hR:Rd w1 rb tb tc ps k' d)
  (ho:w5.ownsRow w.heap.size 249 3 v' (s.length+1) (termC s vs++[.int .u8 a.toNat,x,.int .u8 b.toNat])) (hg:((w1.alloc O1).alloc O2).grownBy w5 v.ownBlock)
  (hat:v'.ownBlock=v.ownBlock∨v'.ownBlock=some (w1.heap.size+1+1)) :
  SeqRel w rb tb tc ps n d k' (s++[.mk a pc b]) (vs++[x]) v' w5:=by
 have hsz:=hK.size
 have hwr:=h.kp.size
 have hown1:w1.ownsRow w.heap.size 249 3 v s.length (termC s vs):=zbB h.own h.rd.1 (by decide) hK
 have hbl:=zeb hg
 have hgs:=hg.size
 simp at hgs
 have hvb:∀ g,v.ownBlock=some g→g<wr.heap.size:=fun g hg=>(h.own.lt g hg).2
 have hA:∀ g,g<w1.heap.size→w.heap.size≤g→some g≠v.ownBlock→(w.heap.size≤g∧some g≠v'.ownBlock):=by
  intro g h1 h2 h3
  refine⟨h2,?_⟩
  rcases hat with e | e<;>rw[e]
  ·exact h3
  ·simp;omega
 refine⟨by have:=h.le;omega,hk',by have:=h.len;have:=h.le;simp;omega,?_,?_,?_,?_,?_⟩
 ·rw[termC_append _ _ (RTerms.length h.terms)];simpa using ho
 ·refine RTerms.snoc ?_ ?_
  ·simp only[RTerm]
   have p1:RPiece w1 (fun g=>wr.heap.size≤g∧g<w1.heap.size) pc x:=RPiece.mono (fun g h1 h2=>⟨h2,h1⟩) pc x hP
   have p2:RPiece w5 (fun g=>wr.heap.size≤g∧g<w1.heap.size) pc x:=RPiece.kept (zdT hown1 hbl (by decide) (fun g hg e=>by have:=hvb g e.symm;omega)) pc x p1
   exact RPiece.mono (fun g _ hg=>hA g hg.2 (by omega) (fun e=>by have:=hvb g e.symm;omega)) pc x p2
  ·have p0:=RTerms.kept (sm_kp (A:=fun g=>w.heap.size≤g∧some g≠v.ownBlock) h.rd.1 hK (fun g hg=>by omega)) s vs h.terms
   have p1:RTerms w1 (fun g=>(w.heap.size≤g∧some g≠v.ownBlock)∧g<w1.heap.size) s vs:=RTerms.mono (fun g h1 h2=>⟨h2,h1⟩) s vs p0
   have p2:RTerms w5 (fun g=>(w.heap.size≤g∧some g≠v.ownBlock)∧g<w1.heap.size) s vs:=RTerms.kept (zdT hown1 hbl (by decide) (fun g hg=>hg.1.2)) s vs p1
   exact RTerms.mono (fun g _ hg=>hA g hg.2 hg.1.1 hg.1.2) s vs p2
 ·exact hR.but hown1 hbl (by decide) (by decide) (by decide)
 ·exact ((((h.kp.trans (hK.mono hwr))).alloc (by omega) O1).alloc (by simp;omega) O2).grown hg (by simp;omega) (fun g hg'=>(h.own.lt g hg').1)
 ·intro r hr
  cases r with
  | ok s' rest=>exact (by simpa [preS,Thk.Res.map] using h.goes _ (.cons hbg hT hr))
  | err e p=>exact (by simpa [preS,Thk.Res.map] using h.goes _ (.later hbg hT hr))
theorem zfb (w:World) (x y z:Value) (t:TypeId):∀ j q,[x,y,z][j]? = some q→(w.alloc (.cells #[x,y,z] t)).cell? ((⟨w.heap.size,0,none⟩:Addr).add j)=some q:=by
 intro j q hj
 match j,hj with
 | 0,hj=>simp at hj;subst hj;simp[Addr.add]
 | 1,hj=>simp at hj;subst hj;simp[Addr.add]
 | 2,hj=>simp at hj;subst hj;simp[Addr.add]
theorem Tryz.infoTerm:(Tryz.prog.info? 249).map (fun i=>(i.zero,i.size,i.bytes))=some (some (.agg #[.int .u8 0,.nilIface,.int .u8 0]),3,32):=by kernel_rfl
theorem sequence_any (w:World) (rb tb tc:Nat) (ps:List (Thk.Tok × Value)) (n d:Nat) (h:Rd w rb tb tc ps n d) (hg:GoodP ps) (hn:n<ps.length) (hd:d≤6)
  (R:Nat) (hR:ps.length - n≤R) (hC:∀ R',R'<R→zc8 rb tb tc ps R') :
  Calls Tryz.prog 184 #[.pointer (some ⟨rb,0,none⟩)] w fun e w'=>SeqPost w rb tb tc ps n d e w':=by
 obtain⟨i0,hi,hz0,hz1,hz2⟩:=info_parts Tryz.infoTerm
 have hrl:=h.lt
 have hl:=h.2.2.1
 have hbt:=fun w' k (hr:Rd w' rb tb tc ps k d) (hk:k<ps.length)=>zf8 w' rb tb tc ps k d hr hg hk hd
 have htm:=fun w' k (hr:Rd w' rb tb tc ps k d) (hk:k<ps.length) (hnk:n≤k)=>term_any w' rb tb tc ps k d hr hg hk hd R (by omega) hC
 have H:Hid (Rd w rb tb tc ps n d):=h
 clear h hC
 go_enter Tryz.func184,Tryz.ntmps184
 go_wp2_with fail
 go_loopg [4] (ps.length - n) (fun g v wr=>∃ k s vs,g=ps.length - k∧SeqRel w rb tb tc ps n d k s vs v wr)
 case atStart=>
  refine⟨n,[],[],rfl,Nat.le_refl _,hn,by simp,World.ownsRow_nil _ _ _ _,by simp[RTerms],H.out,Kp.refl _ _ _,?_⟩
  intro r hr;cases r<;>exact hr
 case round=>
  obtain⟨k,s,vs,rfl,hS⟩:=hrel
  have hb:=hbt wr k hS.rd hS.lt
  have hkl:=hS.lt
  have hnk:=hS.le
  have hsl:=hS.len
  have hwr:=hS.kp.size
  have HS:Hid (SeqRel w rb tb tc ps n d k s vs u4 wr):=hS
  have hown:=hS.own
  obtain⟨a0,c0,hv⟩:=za9 hown
  subst hv
  clear hS hbt
  cases hbg:Thk.zap d (tsOf ps k) with
  | false=>
   rw[hbg] at hb
   have HBG:Hid (Thk.zap d (tsOf ps k)=false):=hbg
   clear hbg htm hown
   go_wp2_with (first | (go_at_call 195;refine hb.mono ?_;rintro e w1 ⟨rfl,q,rfl⟩))
   go_ret2
   have hp:=HS.out.goes _ (.nil HBG.out)
   simp only[preS,Thk.Res.map,List.append_nil] at hp
   refine⟨_,hp,HS.out.kp.drewN q,k,a0,s.length,c0,rfl,hnk,hkl,rfl,⟨vs,⟨?_,?_⟩,?_⟩,HS.out.rd.drewN q⟩
   ·exact zan HS.out.own (Nat.zero_le _)
   ·intro g hg;exact (HS.out.own.lt g hg).1
   ·have h1:RTerms wr (w.heap.size≤·) s vs:=RTerms.mono (fun g _ hg=>hg.1) s vs HS.out.terms
    exact RTerms.kept (w:=wr) (w':=wr.drewN q) ⟨fun _ _ h=>h,fun _ _ _=>rfl⟩ s vs h1
  | true=>
   rw[hbg] at hb
   have HBG:Hid (Thk.zap d (tsOf ps k)=true):=hbg
   have ht:=fun q=>htm (wr.drewN q) k (HS.out.rd.drewN q) hkl hnk
   clear hbg htm
   go_wp2_with (first | (go_at_call 195;refine hb.mono ?_;rintro e w1 ⟨rfl,q,rfl⟩))
   refine (ht q).mono ?_
   rintro e w1 ⟨res,hP,hK1,hE⟩
   have hsz1:=hK1.size
   have hK1':Kp rb wr.heap.size wr w1:=(Kp.drewN (Kp.refl _ _ _) q).trans hK1
   clear hK1 ht hb
   simp only[World.heap_drewN] at hsz1
   have HP:Hid (Thk.PTerm d (tsOf ps k) res):=hP
   have HK1:Hid (Kp rb wr.heap.size wr w1):=hK1'
   clear hP hK1'
   cases res with
   | err er p=>
    obtain⟨rfl,n',hR1⟩:=hE
    simp only[zal,zTerm]
    have H1:Hid (Rd w1 rb tb tc ps n' d):=hR1
    clear hR1 hown
    go_wp2_with fail
    go_ret2
    have hp:=HS.out.goes _ (.err HBG.out HP.out)
    exact⟨_,hp,(HS.out.kp.trans (HK1.out.mono hwr)).alloc (by omega) _,rfl,n',H1.out.below (za1 _ _)⟩
   | ok t rest=>
    obtain⟨a,pc,b⟩:=t
    obtain⟨k',x,rfl,hlt,hk',rfl,hRP,hR1⟩:=hE
    obtain⟨tt,xx,rfl⟩:=RPiece.oneCell hRP
    have HRP:Hid (RPiece w1 (wr.heap.size≤·) pc (.iface tt xx)):=hRP
    have H1:Hid (Rd w1 rb tb tc ps k' d):=hR1
    have hown1:w1.ownsRow w.heap.size 249 3 (.slice a0 s.length c0) s.length (termC s vs):=zbB hown HS.out.rd.1 (by decide) HK1.out
    clear hRP hR1 hown
    go_wp2_with (first | (at_builtin;refine wpList_append_own_at _ rfl _ _ 215 rfl (w.heap.size) 249 i0 _ 3 32 Tryz.underlying215 hi hz0 hz1 hz2 rfl (by decide) _ _ _ rfl ((hown1.alloc _).alloc _) ⟨w1.heap.size+1,0,none⟩ 1 1 [.int .u8 a.toNat,.iface tt xx,.int .u8 b.toNat] rfl rfl ?c1 ?c2 ?c3 ?c4 ?c5 ?_))
    case c1=>rw[← World.size_alloc w1 (.cells #[.int .u8 a.toNat,.iface tt xx,.int .u8 b.toNat] 249)];exact zfb _ _ _ _ _
    case c2=>intro u hu;simp at hu;rcases hu with rfl | rfl | rfl<;>rfl
    case c3=>unfold maxLen;omega
    case c4=>omega
    case c5=>simp;omega
    intro v' w5 hown' hgrow _ hat
    have hN:=HS.out.next hrl HBG.out HP.out hlt hk' HK1.out HRP.out H1.out hown' hgrow hat
    clear hown' hgrow hat hown1
    go_wp2_with fail
    go_roundg (ps.length - k')
    case measure=>omega
    case rel=>exact⟨k',_,_,rfl,hN⟩
def preC (c:Thk.zat):Thk.Res Thk.zat→Thk.Res Thk.zat:=Thk.Res.map (c ++ ·)
structure ChRel (w:World) (rb tb tc:Nat) (ps:List (Thk.Tok × Value)) (n d k:Nat) (c:Thk.zat) (us:List Value) (v:Value) (wr:World):Prop where
 le:n≤k
 lt:k<ps.length
 len:c.length≤k - n
 own:wr.ownsRow w.heap.size 215 1 v c.length us
 seqs:RSeqs wr (fun g=>w.heap.size≤g∧some g≠v.ownBlock) c us
 rd:Rd wr rb tb tc ps k d
 kp:Kp rb w.heap.size w wr
 goes:∀ r,Thk.PChoice d (tsOf ps k) r→Thk.PChoice d (tsOf ps n) (preC c r)
theorem ChRel.push {w:World} {rb tb tc:Nat} {ps:List (Thk.Tok × Value)} {n d k:Nat} {c:Thk.zat} {us:List Value} {v:Value} {wr:World} (h:ChRel w rb tb tc ps n d k c us v wr) (hrl:rb<w.heap.size)
  {s:Thk.Seq} {x:Value} {k':Nat} {w1 w5:World} {v':Value} {O1:Obj}
  (hK:Kp rb wr.heap.size wr w1) (hP:RSeq w1 (wr.heap.size≤·) s x) (hR:Rd w1 rb tb tc ps k' d)
  (ho:w5.ownsRow w.heap.size 215 1 v' (c.length+1) (us++[x])) (hg:(w1.alloc O1).grownBy w5 v.ownBlock)
  (hat:v'.ownBlock=v.ownBlock∨v'.ownBlock=some (w1.heap.size+1)) :
  w5.ownsRow w.heap.size 215 1 v' (c++[s]).length (us++[x])∧RSeqs w5 (fun g=>w.heap.size≤g∧some g≠v'.ownBlock) (c++[s]) (us++[x])∧Rd w5 rb tb tc ps k' d∧Kp rb w.heap.size w w5:=by
 have hsz:=hK.size
 have hwr:=h.kp.size
 have hown1:w1.ownsRow w.heap.size 215 1 v c.length us:=zbB h.own h.rd.1 (by decide) hK
 have hbl:=grown1_blocks hg
 have hgs:=hg.size
 simp at hgs
 have hvb:∀ g,v.ownBlock=some g→g<wr.heap.size:=fun g hg=>(h.own.lt g hg).2
 have hA:∀ g,g<w1.heap.size→w.heap.size≤g→some g≠v.ownBlock→(w.heap.size≤g∧some g≠v'.ownBlock):=by
  intro g h1 h2 h3
  refine⟨h2,?_⟩
  rcases hat with e | e<;>rw[e]
  ·exact h3
  ·simp;omega
 refine⟨by simpa using ho,?_,?_,?_⟩
 ·refine RSeqs.snoc ?_ ?_
  ·have p1:RSeq w1 (fun g=>wr.heap.size≤g∧g<w1.heap.size) s x:=hP.mono (fun g h1 h2=>⟨h2,h1⟩)
   have p2:RSeq w5 (fun g=>wr.heap.size≤g∧g<w1.heap.size) s x:=p1.kept (zdT hown1 hbl (by decide) (fun g hg e=>by have:=hvb g e.symm;omega))
   exact p2.mono (fun g _ hg=>hA g hg.2 (by omega) (fun e=>by have:=hvb g e.symm;omega))
  ·have p0:=RSeqs.kept (sm_kp (A:=fun g=>w.heap.size≤g∧some g≠v.ownBlock) h.rd.1 hK (fun g hg=>by omega)) c us h.seqs
   have p1:RSeqs w1 (fun g=>(w.heap.size≤g∧some g≠v.ownBlock)∧g<w1.heap.size) c us:=RSeqs.mono (fun g h1 h2=>⟨h2,h1⟩) c us p0
   have p2:RSeqs w5 (fun g=>(w.heap.size≤g∧some g≠v.ownBlock)∧g<w1.heap.size) c us:=RSeqs.kept (zdT hown1 hbl (by decide) (fun g hg=>hg.1.2)) c us p1
   exact RSeqs.mono (fun g _ hg=>hA g hg.2 hg.1.1 hg.1.2) c us p2
 ·exact hR.but hown1 hbl (by decide) (by decide) (by decide)
 ·exact (((h.kp.trans (hK.mono hwr))).alloc (by omega) O1).grown hg (by simp;omega) (fun g hg'=>(h.own.lt g hg').1)
theorem Tryz.infoSeq:(Tryz.prog.info? 215).map (fun i=>(i.zero,i.size,i.bytes))=some (some (.slice none 0 0),1,24):=by kernel_rfl
theorem kindI_slash {k:Thk.TK} (hk:zaV k):(k = .sign 47∧kindI k=47)∨(k≠.sign 47∧(kindI k != 47)=true):=by
 by_cases h:k = .sign 47
 ·left;subst h;exact⟨rfl,rfl⟩
 ·right
  refine⟨h,?_⟩
  rw[bne_iff_ne]
  intro e
  exact h (zbO hk (c:=47) (by decide) (by rw[e];rfl))
theorem choice_step (rb tb tc:Nat) (ps:List (Thk.Tok × Value)) (hg:GoodP ps) (R:Nat) (hC:∀ R',R'<R→zc8 rb tb tc ps R'):zc8 rb tb tc ps R:=by
 intro w n d h hn hR hd
 obtain⟨i0,hi,hz0,hz1,hz2⟩:=info_parts Tryz.infoSeq
 have hrl:=h.lt
 have hl:=h.2.2.1
 have hsq:=fun w' k (hr:Rd w' rb tb tc ps k d) (hk:k<ps.length) (hnk:n≤k)=>sequence_any w' rb tb tc ps k d hr hg hk hd R (by omega) hC
 have H:Hid (Rd w rb tb tc ps n d):=h
 clear h hC
 go_enter Tryz.func163,Tryz.ntmps163
 go_wp2_with fail
 go_loopg [4] (ps.length - n) (fun g v wr=>∃ k c us,g=ps.length - k∧ChRel w rb tb tc ps n d k c us v wr)
 case atStart=>
  refine⟨n,[],[],rfl,Nat.le_refl _,hn,by simp,World.ownsRow_nil _ _ _ _,by simp[RSeqs],H.out,Kp.refl _ _ _,?_⟩
  intro r hr;cases r<;>exact hr
 case round=>
  obtain⟨k,c,us,rfl,hS⟩:=hrel
  have hs:=hsq wr k hS.rd hS.lt hS.le
  have hkl:=hS.lt
  have hnk:=hS.le
  have hcl:=hS.len
  have hwr:=hS.kp.size
  have HS:Hid (ChRel w rb tb tc ps n d k c us u4 wr):=hS
  have hown:=hS.own
  clear hS hsq
  go_wp2_with fail
  refine hs.mono ?_
  rintro e w1 ⟨res,hP,hK1,hE⟩
  have hsz1:=hK1.size
  have HP:Hid (Thk.PSeq d (tsOf ps k) res):=hP
  have HK1:Hid (Kp rb wr.heap.size wr w1):=hK1
  clear hs hP hK1
  cases res with
  | err er p=>
   obtain⟨rfl,n',hR1⟩:=hE
   simp only[zal]
   have H1:Hid (Rd w1 rb tb tc ps n' d):=hR1
   clear hR1 hown
   go_wp2_with fail
   go_ret2
   exact⟨_,HS.out.goes _ (.err HP.out),HS.out.kp.trans (HK1.out.mono hwr),rfl,n',H1.out⟩
  | ok s rest=>
   obtain⟨k',sa,sl,sc,rfl,hle,hk',rfl,hRS,hR1⟩:=hE
   have HRS:Hid (RSeq w1 (wr.heap.size≤·) s (.slice sa sl sc)):=hRS
   have H1:Hid (Rd w1 rb tb tc ps k' d):=hR1
   have hown1:w1.ownsRow w.heap.size 215 1 u4 c.length us:=zbB hown HS.out.rd.1 (by decide) HK1.out
   clear hRS hR1 hown
   go_wp2_with (first | (at_builtin;refine wpList_append_own_at _ rfl _ _ 140 rfl (w.heap.size) 215 i0 _ 1 24 Tryz.underlying140 hi hz0 hz1 hz2 rfl (by decide) _ _ _ rfl (hown1.alloc _) ⟨w1.heap.size,0,none⟩ 1 1 [.slice sa sl sc] rfl rfl ?c1 ?c2 ?c3 ?c4 ?c5 ?_))
   case c1=>exact cell_one_new _ _ _
   case c2=>intro u hu;simp at hu;subst hu;rfl
   case c3=>unfold maxLen;omega
   case c4=>omega
   case c5=>simp;omega
   intro v' w5 hown' hgrow _ hat
   obtain⟨p1,p2,p3,p4⟩:=HS.out.push hrl HK1.out HRS.out H1.out hown' hgrow hat
   obtain⟨va,vc,hv⟩:=za9 hown'
   subst hv
   have P1:Hid (w5.ownsRow w.heap.size 215 1 (.slice va (c.length+1) vc) (c++[s]).length (us++[.slice sa sl sc])):=p1
   have P2:Hid (RSeqs w5 (fun g=>w.heap.size≤g∧some g≠(Value.slice va (c.length+1) vc).ownBlock) (c++[s]) (us++[.slice sa sl sc])):=p2
   have P3:Hid (Rd w5 rb tb tc ps k' d):=p3
   have P4:Hid (Kp rb w.heap.size w w5):=p4
   obtain⟨r0,r1,r2,rf⟩:=p3.cells
   clear hown' hgrow hat hown1 p1 p2 p3 p4
   rcases kindI_slash (hg k' hk').1 with ⟨hks,hki⟩ | ⟨hks,hki⟩
   ·have hkd:=zbk w5 rb tb tc ps k' d P3.out hk' 47 hki
    have hk1:k'+1<ps.length:=(hg k' hk').2 (by rw[hks];rfl)
    have HKS:Hid (ps[k'].1.kind = .sign 47):=hks
    clear hks hki
    go_wp2_with (first | (go_at_call 124;refine hkd.mono ?_;rintro e w6 ⟨rfl,q,rfl⟩))
    have hN:ChRel w rb tb tc ps n d (k'+1) (c++[s]) (us++[.slice sa sl sc]) (.slice va (c.length+1) vc) ((w5.setCell ⟨rb,1,none⟩ (.int .i64 ((k':Int)+1))).drewN q):=by
     have hKs:Kp rb w5.heap.size w5 ((w5.setCell ⟨rb,1,none⟩ (.int .i64 ((k':Int)+1))).drewN q):=((Kp.refl _ _ _).setRb _ _).drewN q
     refine⟨by omega,hk1,by simp;omega,zbB P1.out P3.out.1 (by decide) hKs,RSeqs.kept (sm_kp P3.out.1 hKs (fun g hg=>by omega)) _ _ P2.out,(P3.out.set1 (k'+1)).drewN q,(P4.out.setRb _ _).drewN q,?_⟩
     intro r hr
     have hm:Thk.PSeq d (tsOf ps k) (.ok s (tsOf ps k')):=HP.out
     rw[← zaR hk'] at hr
     have hsl:(Thk.hd (tsOf ps k')).kind = .sign 47:=by rw[zai hk'];exact HKS.out
     cases r with
     | ok c' rest=>exact (by simpa [preC,Thk.Res.map] using HS.out.goes _ (.more hm hsl hr))
     | err e p=>exact (by simpa [preC,Thk.Res.map] using HS.out.goes _ (.later hm hsl hr))
    go_roundg (ps.length - (k'+1))
    case measure=>omega
    case rel=>exact⟨k'+1,_,_,rfl,hN⟩
   ·have hkd:=zbk w5 rb tb tc ps k' d P3.out hk' _ rfl
    have HKS:Hid (ps[k'].1.kind≠.sign 47):=hks
    clear hks
    generalize kindI ps[k'].1.kind=K at *
    go_wp2_with (first | (go_at_call 124;refine hkd.mono ?_;rintro e w6 ⟨rfl,q,rfl⟩))
    go_ret2
    have hp:=HS.out.goes _ (.last HP.out (by rw[zai hk'];exact HKS.out))
    refine⟨_,hp,P4.out.drewN q,k',va,c.length+1,vc,rfl,by omega,hk',rfl,⟨us++[.slice sa sl sc],⟨?_,?_⟩,?_⟩,P3.out.drewN q⟩
    ·exact zan P1.out (Nat.zero_le _)
    ·intro g hg;exact (P1.out.lt g hg).1
    ·have h1:RSeqs w5 (w.heap.size≤·) (c++[s]) (us++[.slice sa sl sc]):=RSeqs.mono (fun g _ hg=>hg.1) _ _ P2.out
     exact RSeqs.kept (w:=w5) (w':=w5.drewN q) ⟨fun _ _ h=>h,fun _ _ _=>rfl⟩ _ _ h1
theorem choice_any (rb tb tc:Nat) (ps:List (Thk.Tok × Value)) (hg:GoodP ps) (R:Nat):zc8 rb tb tc ps R:=by
 induction R using Nat.strongRecOn with
 | ind R ih=>exact choice_step rb tb tc ps hg R ih
def RuleEnd (w:World) (rb tb tc:Nat) (ps:List (Thk.Tok × Value)) (n:Nat) (e:Ending) (w':World):Thk.Res Thk.Rule→Prop
 | .ok r rest=>∃ n' a l cp,rest=tsOf ps n'∧n<n'∧n'<ps.length∧e = .returned (.tuple #[.agg #[.string ⟨r.name.toArray⟩,.slice a l cp],.nilIface])∧RChoice w' (w.heap.size≤·) r.choice (.slice a l cp)∧Rd w' rb tb tc ps n' 0∧r.name.length≤2000
 | .err er p=>∃ z,e = .returned (.tuple #[.agg #[.string z,.slice none 0 0],zal er p])∧∃ n',Rd w' rb tb tc ps n' 0
def RulePost (w:World) (rb tb tc:Nat) (ps:List (Thk.Tok × Value)) (m n:Nat) (e:Ending) (w':World):Prop:=
 ∃ res,Thk.PRule m (tsOf ps n) res∧Kp rb w.heap.size w w'∧RuleEnd w rb tb tc ps n e w' res
abbrev zbs:Obj:=.cells #[.string ⟨#[]⟩,.slice none 0 0] 142
theorem kindI_name {k:Thk.TK} (hk:zaV k):(k = .name∧kindI k=2)∨(k≠.name∧kindI k≠2):=by
 cases k with
 | name=>left;exact⟨rfl,rfl⟩
 | sign c=>right;have:=zcs hk;refine⟨by simp,?_⟩;simp only[kindI];omega
 | _=>right;simp[kindI]
theorem kindI_arrow' {k:Thk.TK} (hk:zaV k):(k = .arrow∧kindI k=3)∨(k≠.arrow∧kindI k≠3):=by
 cases k with
 | arrow=>left;exact⟨rfl,rfl⟩
 | sign c=>right;have:=zcs hk;refine⟨by simp,?_⟩;simp only[kindI];omega
 | _=>right;simp[kindI]
theorem zd7 {rb:Nat} {W w1:World} (hb:Kp rb W.heap.size W w1) {b:Nat} (h1:b<W.heap.size) (h2:b≠rb):w1.heap[b]? = W.heap[b]? := hb.block b h1 h2
theorem rule_noName (w:World) (rb tb tc:Nat) (ps:List (Thk.Tok × Value)) (m n:Nat) (h:Rd w rb tb tc ps n 0) (hn:n<ps.length) (hk:ps[n].1.kind≠.name) (hki:kindI ps[n].1.kind≠2) :
  Calls Tryz.prog 123 #[.pointer (some ⟨rb,0,none⟩),.int .i64 m] w fun e w'=>RulePost w rb tb tc ps m n e w':=by
 have hrl:=h.lt
 have hex:=zep (w.alloc zbs) rb tb tc ps n 0 (h.below (za1 _ _)) hn 2 hki
 obtain⟨a0,b0,e0⟩:=za9 (h.2.1.2 ps[n] (List.getElem_mem hn))
 simp only[tokV,e0] at hex
 clear e0 h hki
 go_enter Tryz.func123,Tryz.ntmps123
 go_wp2_with fail
 refine hex.mono ?_
 rintro e w1 ⟨rfl,hR1,hK1⟩
 have hsz1:=hK1.size
 simp at hsz1
 have hrc1:w1.heap[w.heap.size]? = some zbs:=by rw[zd7 hK1 (by simp) (by omega)];exact za4 _ _
 have q1:=za0 hrc1
 have f1:=za2 hrc1
 have hlt1:w.heap.size<w1.heap.size:=by omega
 have H1:Hid (Rd w1 rb tb tc ps n 0):=hR1
 have HK1:Hid (Kp rb w.heap.size w w1):=(Kp.of (za1 _ _)).trans (hK1.mono (by simp))
 have HRC:Hid (w1.heap[w.heap.size]? = some zbs):=hrc1
 clear hex hR1 hK1 hrc1
 go_wp2_with fail
 refine bodyPost_ret (v:=.tuple #[.agg #[.string ⟨#[]⟩,.slice none 0 0],zal 2 ps[n].1.place]) (by simp[results,Tryz.results123,go_sem,zal,q1,hlt1]) rfl ?_
 refine⟨.err 2 ps[n].1.place,?_,?_,_,rfl,n,?_⟩
 ·rw[← zai hn];exact .noName (by rw[zai hn];exact hk)
 ·exact ((HK1.out.setCell (Nat.le_refl _) _).setCell (Nat.le_refl _) _).alloc (by simp;omega) _
 ·refine (H1.out.other (b:=w.heap.size) (fun g hg _=>?_) HRC.out (by decide) (by decide) (by decide)).below (za1 _ _)
  rw[Below.heap_setCell _ _ _ _ hg,Below.heap_setCell _ _ _ _ hg]
end Go.Proofs.YtiganlkabilblaaGreatDoor
