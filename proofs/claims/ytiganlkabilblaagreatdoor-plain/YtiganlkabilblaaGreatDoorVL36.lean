import Derived.Test.YtiganlkabilblaaGreatDoorVL35
import Derived.Test.YtiganlkabilblaaGreatDoorVL25
import Derived.Test.YtiganlkabilblaaGreatDoorVL22
set_option linter.all false
set_option maxHeartbeats 64000000
set_option maxRecDepth 100000
namespace Go.Proofs.YtiganlkabilblaaGreatDoor
open Thk
def znL (p:zC):Prop:=∃ t:Tok,(∀ tail,ZQ tail=0→blk false (prP p true++tail)=0∧zM (prP p true++tail)=t)∧t.kind.last=false∧t.size=(prP p true).length∧zU t=some p∧prP p false=prP p true∧nfP p=p∧nfU p = .mk 0 p 0
mutual
def plP:zC→Prop
 | .group c=>c≠[]∧plC c
 | .name b=>znL (.name b)
 | .lit b=>znL (.lit b)
 | .cls l=>znL (.cls l)
 | .any=>znL .any
def plT:Term→Prop
 | .mk a p b=>(a=0∨a=38∨a=33)∧(b=0∨b=63∨b=42∨b=43)∧plP p
def plS:List Term→Prop
 | []=>True
 | t::s=>plT t∧plS s
def plC:List (List Term)→Prop
 | []=>True
 | s::c=>plS s∧plC c
end
mutual
def dpP:zC→Nat
 | .group [[]]=>1
 | .group c=>dpC c+1
 | .name _=>0
 | .lit _=>0
 | .cls _=>0
 | .any=>0
def dpT:Term→Nat
 | .mk _ p _=>dpP p
def dpS:List Term→Nat
 | []=>0
 | t::s=>max (dpT t) (dpS s)
def dpQ:List Term→Nat
 | []=>1
 | t::s=>max (dpT t) (dpS s)
def dpC:List (List Term)→Nat
 | []=>0
 | s::c=>max (dpQ s) (dpC c)
end
structure znu (pos:Nat) (tail:List UInt8):Prop where
 lets:ZQ tail=0
 opt:(hd (TL pos tail)).kind≠.sign 63
 star:(hd (TL pos tail)).kind≠.sign 42
 plus:(hd (TL pos tail)).kind≠.sign 43
 arrow:(hd (TL pos tail)).kind≠.arrow
theorem Stop.t {d pos:Nat} {tail:List UInt8} (h:Stop d pos tail):znu pos tail:=⟨h.lets,h.opt,h.star,h.plus,h.arrow⟩
theorem znu.behind {pos:Nat} {tail:List UInt8} (h:znu pos tail):Zg (TL pos tail)=(0,TL pos tail):=zdX h.opt h.star h.plus
structure HdT (d:Nat) (ts:List Tok):Prop where
 zX:zX d ts=true
 opt:(hd ts).kind≠.sign 63
 star:(hd ts).kind≠.sign 42
 plus:(hd ts).kind≠.sign 43
 arrow:(hd ts).kind≠.arrow
def zo8 (p:zC):Prop:=∀ d pos tail,d+dpP p≤6→ZQ tail=0→(hd (TL (pos+(prP p true).length) tail)).kind≠.arrow→(HdT d (TL pos (prP p true++tail))∧Z9 (TL pos (prP p true++tail))=(0,TL pos (prP p true++tail)))∧Qi d (TL pos (prP p true++tail)) (.ok (nfP p) (TL (pos+(prP p true).length) tail))
def zow (p:zC):Prop:=∀ d pos tail,d+dpP p≤6→znu (pos+(prP p false).length) tail→HdT d (TL pos (prP p false++tail))∧QF d (TL pos (prP p false++tail)) (.ok (nfU p) (TL (pos+(prP p false).length) tail))
def zo9 (t:Term):Prop:=∀ d pos tail,d+dpT t≤6→znu (pos+(prT t).length) tail→HdT d (TL pos (prT t++tail))∧QF d (TL pos (prT t++tail)) (.ok (nfT t) (TL (pos+(prT t).length) tail))
def zpm (s:List Term):Prop:=∀ d pos tail,d+dpS s≤6→znu (pos+(prS s).length) tail→zX d (TL (pos+(prS s).length) tail)=false→HdT d (TL pos (prS s++tail))∧ZW d (TL pos (prS s++tail)) (.ok (nfS s) (TL (pos+(prS s).length) tail))
def SqR (s:List Term):Prop:=∀ d pos tail,d+dpQ s≤6→znu (pos+(znd s).length) tail→zX d (TL (pos+(znd s).length) tail)=false→HdT d (TL pos (znd s++tail))∧ZW d (TL pos (znd s++tail)) (.ok (nfQ s) (TL (pos+(znd s).length) tail))
theorem zo6 {d:Nat} {ts rest:List Tok} {p:zC} (ha:Z9 ts=(0,ts)) (h:Qi d ts (.ok p rest)) (hb:Zg rest=(0,rest)):QF d ts (.ok (.mk 0 p 0) rest):=by
 have h3:=QF.ok (d:=d) (ts:=ts) (p:=p) (rest:=rest) (by rw[ha];exact h)
 rw[ha,hb] at h3
 exact h3
theorem znY {p:zC} (h:znL p):zo8 p∧zow p:=by
 obtain⟨t,h1,hl,hs,hp,hf,hn,hu⟩:=h
 have key:∀ d pos tail,ZQ tail=0→(hd (TL (pos+(prP p true).length) tail)).kind≠.arrow→(HdT d (TL pos (prP p true++tail))∧Z9 (TL pos (prP p true++tail))=(0,TL pos (prP p true++tail)))∧Qi d (TL pos (prP p true++tail)) (.ok p (TL (pos+(prP p true).length) tail)):=by
  intro d pos tail hlet har
  obtain⟨h2,h3⟩:=h1 tail hlet
  have hT:=zk3 (prP p true) tail pos t h2 h3 hl hs
  have hpp:zU { t with place:=pos }=some p:=hp
  have hk:t.kind = .name∨t.kind = .lit∨t.kind = .cls∨t.kind = .sign 46:=by
   cases hq:t.kind with
   | name=>exact .inl rfl
   | lit=>exact .inr (.inl rfl)
   | cls=>exact .inr (.inr (.inl rfl))
   | sign c=>
    by_cases hc:c=46
    ·subst hc;exact .inr (.inr (.inr rfl))
    ·simp[zU,hq,hc] at hp
   | fin=>simp[zU,hq] at hp
   | bad=>simp[zU,hq] at hp
   | arrow=>simp[zU,hq] at hp
  rw[hT]
  have hkd:(hd ({ t with place:=pos }::TL (pos+(prP p true).length) tail)).kind=t.kind:=rfl
  refine⟨⟨⟨?_,?_,?_,?_,?_⟩,?_⟩,.plain hpp⟩
  ·have h0:(hd (TL (pos+(prP p true).length) tail)).kind.isArrow=false:=by
    cases hq:(hd (TL (pos+(prP p true).length) tail)).kind with
    | arrow=>exact absurd hq har
    | _=>rfl
   unfold Thk.zX
   rw[hkd]
   rcases hk with e | e | e | e<;>rw[e]
   ·simp only[List.tail_cons,h0,Bool.and_false,Bool.not_false]
   ·rfl
  ·rw[hkd];rcases hk with e | e | e | e<;>rw[e]<;>simp
  ·rw[hkd];rcases hk with e | e | e | e<;>rw[e]<;>simp
  ·rw[hkd];rcases hk with e | e | e | e<;>rw[e]<;>simp
  ·rw[hkd];rcases hk with e | e | e | e<;>rw[e]<;>simp
  ·unfold Z9
   rw[hkd]
   rcases hk with e | e | e | e<;>rw[e]<;>simp
 constructor
 ·intro d pos tail _ hlet har
  rw[hn]
  exact key d pos tail hlet har
 ·intro d pos tail _ hst
  rw[hf] at hst ⊢
  obtain⟨⟨k1,k2⟩,k3⟩:=key d pos tail hst.lets hst.arrow
  rw[hu]
  exact⟨k1,zo6 k2 k3 hst.behind⟩
theorem znN {X:List UInt8} {dep:Nat} {nc:Z5} (hx:Px X dep nc) (d pos:Nat) (tail:List UInt8) (hd':d+dep+1≤6):(HdT d (TL pos ((40::(X++[41]))++tail))∧Z9 (TL pos ((40::(X++[41]))++tail))=(0,TL pos ((40::(X++[41]))++tail)))∧Qi d (TL pos ((40::(X++[41]))++tail)) (.ok (.group nc) (TL (pos+(40::(X++[41])).length) tail)):=by
 have e : 40::(X++[41])=brk [] X:=by simp[brk]
 rw[e]
 obtain⟨h1,h2⟩:=zk4 (b:=[]) (by simp[z4]) hx d pos tail hd'
 exact⟨⟨⟨zkq h1,by rw[h1];simp,by rw[h1];simp,by rw[h1];simp,by rw[h1];simp⟩,zkp h1⟩,h2⟩
theorem zoI {c:List (List Term)} (h:znK c=true):dpP (.group c)=dpC c+1:=by
 cases c with
 | nil=>simp[dpP]
 | cons s c=>
  cases c with
  | nil=>
   cases s with
   | nil=>cases h
   | cons t s=>simp[dpP]
  | cons s2 c=>cases s with
   | nil=>simp[dpP]
   | cons t s=>simp[dpP]
theorem zoH (a:UInt8) (p:zC) (b:UInt8):dpP (.group [[.mk a p b]])=dpP p+1:=by simp[dpP,dpC,dpQ,dpT,dpS]
theorem zpL {c:UInt8} (h:Qf c=true) (tail:List UInt8):ZQ (c::tail)=0:=by
 have hc:c=47∨c=38∨c=33∨c=63∨c=42∨c=43∨c=40∨c=41∨c=46:=by simpa [Qf] using h
 rcases hc with rfl | rfl | rfl | rfl | rfl | rfl | rfl | rfl | rfl<;>simp[ZQ,Qu]
theorem zpa {a:UInt8} {p:zC} {b:UInt8} (ha:a=0∨a=38∨a=33) (hb:b=0∨b=63∨b=42∨b=43) (hne:¬ (a=0∧b=0)) (hP:zo8 p):zo9 (.mk a p b):=by
 intro d pos tail hd' hst
 have hpr:prT (.mk a p b)=zne a++(prP p true++zne b):=by simp only[prT];rw[zo3 hne]
 rw[hpr] at hst ⊢
 rw[znj hne]
 have hdp:d+dpP p≤6:=hd'
 -- behind
 have hB:∀ q,znu (q+(zne b).length) tail→ZQ (zne b++tail)=0∧(hd (TL q (zne b++tail))).kind≠.arrow∧Zg (TL q (zne b++tail))=(b,TL (q+(zne b).length) tail):=by
  intro q hq
  by_cases hb0:b=0
  ·subst hb0
   exact⟨hq.lets,hq.arrow,hq.behind⟩
  ·have hs:Qf b=true:=by rcases hb with rfl | rfl | rfl | rfl<;>first | exact absurd rfl hb0 | decide
   have e:zne b=[b]:=by simp[zne,hb0]
   rw[e]
   have hT:=qt b tail q hs
   refine⟨zpL hs tail,?_,?_⟩
   ·show (hd (TL q (b::tail))).kind≠_
    rw[hT];simp[hd]
   ·show Zg (TL q (b::tail))=_
    rw[hT]
    rcases hb with rfl | rfl | rfl | rfl<;>first | exact absurd rfl hb0 | rfl
 by_cases ha0:a=0
 ·subst ha0
  have e:zne 0=[]:=rfl
  rw[e,List.nil_append] at hst ⊢
  rw[List.length_append,← Nat.add_assoc] at hst ⊢
  rw[List.append_assoc]
  obtain⟨k1,k2,k3⟩:=hB _ hst
  obtain⟨⟨g1,g2⟩,g3⟩:=hP d pos (zne b++tail) hdp k1 k2
  refine⟨g1,?_⟩
  have h3:=QF.ok (d:=d) (ts:=TL pos (prP p true++(zne b++tail))) (p:=nfP p) (by rw[g2];exact g3)
  rw[g2,k3] at h3
  exact h3
 ·have hs:Qf a=true:=by rcases ha with rfl | rfl | rfl<;>first | exact absurd rfl ha0 | decide
  have e:zne a=[a]:=by simp[zne,ha0]
  rw[e] at hst ⊢
  simp only[List.length_cons,List.length_append,List.cons_append,List.append_assoc,List.nil_append,List.length_nil,Nat.zero_add] at hst ⊢
  have e2:pos+((prP p true).length+(zne b).length+1)=pos+1+(prP p true).length+(zne b).length:=by omega
  rw[e2] at hst ⊢
  obtain⟨k1,k2,k3⟩:=hB _ hst
  obtain⟨⟨g1,g2⟩,g3⟩:=hP d (pos+1) (zne b++tail) hdp k1 k2
  have hT:=qt a (prP p true++(zne b++tail)) pos hs
  have hah:Z9 (TL pos (a::(prP p true++(zne b++tail))))=(a,TL (pos+1) (prP p true++(zne b++tail))):=by
   rw[hT]
   rcases ha with rfl | rfl | rfl<;>first | exact absurd rfl ha0 | rfl
  refine⟨?_,?_⟩
  ·rw[hT]
   rcases ha with rfl | rfl | rfl
   ·exact absurd rfl ha0
   ·exact⟨rfl,by simp[hd],by simp[hd],by simp[hd],by simp[hd]⟩
   ·exact⟨rfl,by simp[hd],by simp[hd],by simp[hd],by simp[hd]⟩
  ·have h3:=QF.ok (d:=d) (ts:=TL pos (a::(prP p true++(zne b++tail)))) (p:=nfP p) (by rw[hah];exact g3)
   rw[hah,k3] at h3
   exact h3
theorem zpw {pos d:Nat} {rest:List UInt8} (h:HdT d (TL (pos+1) rest)):znu pos (32::rest):=by
 have hb:=zka 32 rest pos (by decide)
 exact⟨by simp[ZQ,Qu],by rw[hb];exact h.opt,by rw[hb];exact h.star,by rw[hb];exact h.plus,by rw[hb];exact h.arrow⟩
mutual
theorem rdP:∀ p:zC,plP p→zo8 p∧zow p
 | .name b,h=>znY h
 | .lit b,h=>znY h
 | .cls l,h=>znY h
 | .any,h=>znY h
 | .group c,h=>by
  have hC:=rdC c h.1 h.2
  rcases znq c with rfl | ⟨a,p,b,rfl⟩ | hw
  ·have hx:=zkM
   have e1:dpP (.group [[]])=1:=by simp[dpP]
   have e2:∀ sg,prP (.group [[]]) sg=40::([]++[41]):=fun sg=>by simp[prP]
   have e3:nfP (.group [[]]) = .group [[]]:=by simp[nfP]
   have e4:nfU (.group [[]]) = .mk 0 (.group [[]]) 0:=by simp[nfU]
   constructor
   ·intro d pos tail hd' hlet har
    rw[e2,e3]
    exact znN hx d pos tail (by omega)
   ·intro d pos tail hd' hst
    rw[e2] at hst ⊢
    rw[e4]
    obtain⟨⟨k1,k2⟩,k3⟩:=znN hx d pos tail (by omega)
    exact⟨k1,zo6 k2 k3 hst.behind⟩
  ·have ht:plT (.mk a p b):=h.2.1.1
   have hp:=rdP p ht.2.2
   have e1:=zoH a p b
   by_cases hne:a=0∧b=0
   ·obtain⟨rfl,rfl⟩:=hne
    constructor
    ·intro d pos tail hd' hlet har
     have e2:=zno 0 p 0 true
     have e3:=zny 0 p 0
     rw[if_pos ⟨rfl,rfl⟩] at e2 e3
     rw[e2] at har ⊢
     rw[e3]
     exact hp.1 d pos tail (by omega) hlet har
    ·intro d pos tail hd' hst
     have e2:=zno 0 p 0 false
     have e3:=znA 0 p 0
     rw[if_pos ⟨rfl,rfl⟩] at e2 e3
     rw[e2] at hst ⊢
     rw[e3]
     exact hp.2 d pos tail (by omega) hst
   ·have hT:zo9 (.mk a p b):=zpa ht.1 ht.2.1 hne hp.1
    constructor
    ·intro d pos tail hd' hlet har
     have e2:=zno a p b true
     have e3:=zny a p b
     rw[if_neg hne] at e2 e3
     simp only[if_true] at e2
     rw[e2,e3]
     have hx:Px (prT (.mk a p b)) (dpP p) [[nfT (.mk a p b)]]:=by
      intro d pos tail hd' hs
      obtain⟨k1,k2⟩:=hT d pos tail hd' hs.t
      exact .last (.cons k1.zX k2 (.nil hs.none)) hs.slash
     exact znN hx d pos tail (by omega)
    ·intro d pos tail hd' hst
     have e2:=zno a p b false
     have e3:=znA a p b
     rw[if_neg hne] at e2 e3
     simp only[Bool.false_eq_true,if_false] at e2
     rw[e2] at hst ⊢
     rw[e3]
     exact hT d pos tail (by show d+dpP p≤6;omega) hst
  ·have e1:=zoI hw
   constructor
   ·intro d pos tail hd' hlet har
    rw[zns hw,znH hw]
    exact znN hC d pos tail (by omega)
   ·intro d pos tail hd' hst
    rw[zns hw] at hst ⊢
    rw[znI hw]
    obtain⟨⟨k1,k2⟩,k3⟩:=znN hC d pos tail (by omega)
    exact⟨k1,zo6 k2 k3 hst.behind⟩
theorem rdT:∀ t:Term,plT t→zo9 t
 | .mk a p b,h=>by
  have hp:=rdP p h.2.2
  by_cases hne:a=0∧b=0
  ·obtain⟨rfl,rfl⟩:=hne
   intro d pos tail hd' hst
   rw[znk] at hst ⊢
   rw[znz]
   exact hp.2 d pos tail hd' hst
  ·exact zpa h.1 h.2.1 hne hp.1
theorem rdS:∀ s:List Term,s≠[]→plS s→zpm s
 | [],h,_=>absurd rfl h
 | [t],_,h=>by
  have hT:=rdT t h.1
  intro d pos tail hd' hst hnb
  have e:prS [t]=prT t:=by simp[prS]
  rw[e] at hst hnb ⊢
  obtain⟨k1,k2⟩:=hT d pos tail (by have h9:dpS [t]=max (dpT t) 0:=rfl;omega) hst
  exact⟨k1,.cons k1.zX k2 (.nil hnb)⟩
 | t::t2::s,_,h=>by
  have hT:=rdT t h.1
  have hS:=rdS (t2::s) (by simp) h.2
  intro d pos tail hd' hst hnb
  have e:prS (t::t2::s)=prT t++(32::prS (t2::s)):=by simp[prS]
  have e2:pos+(prT t++(32::prS (t2::s))).length=pos+(prT t).length+1+(prS (t2::s)).length:=by simp;omega
  rw[e] at hst hnb ⊢
  rw[e2] at hst hnb ⊢
  have hdd:dpS (t::t2::s)=max (dpT t) (dpS (t2::s)):=rfl
  obtain⟨m1,m2⟩:=hS d (pos+(prT t).length+1) tail (by omega) hst hnb
  have e3:prT t++(32::prS (t2::s))++tail=prT t++(32::(prS (t2::s)++tail)):=by simp
  rw[e3]
  obtain⟨k1,k2⟩:=hT d pos (32::(prS (t2::s)++tail)) (by omega) (zpw m1)
  rw[zka 32 _ _ (by decide)] at k2
  exact⟨k1,.cons k1.zX k2 m2⟩
theorem rdQ:∀ s:List Term,plS s→SqR s
 | [],_=>by
  intro d pos tail hd' hst hnb
  have e:znd []=40::([]++[41]):=by simp[znd]
  rw[e] at hst hnb ⊢
  obtain⟨⟨k1,k2⟩,k3⟩:=znN zkM d pos tail (by have h9:dpQ []=1:=rfl;omega)
  exact⟨k1,.cons k1.zX (zo6 k2 k3 hst.behind) (.nil hnb)⟩
 | t::s,h=>by
  have hS:=rdS (t::s) (by simp) h
  intro d pos tail hd' hst hnb
  have e:znd (t::s)=prS (t::s):=by simp[znd]
  rw[e] at hst hnb ⊢
  exact hS d pos tail hd' hst hnb
theorem rdC:∀ c:List (List Term),c≠[]→plC c→Px (prC c) (dpC c) (nfC c)
 | [],h,_=>absurd rfl h
 | [s],_,h=>by
  have hQ:=rdQ s h.1
  intro d pos tail hd' hs
  have e:prC [s]=znd s:=by simp[prC]
  rw[e] at hs ⊢
  obtain⟨k1,k2⟩:=hQ d pos tail (by have h9:dpC [s]=max (dpQ s) 0:=rfl;omega) hs.t hs.none
  exact .last k2 hs.slash
 | s::s2::c,_,h=>by
  have hQ:=rdQ s h.1
  have hC:=rdC (s2::c) (by simp) h.2
  intro d pos tail hd' hs
  have e:prC (s::s2::c)=znd s++([32,47,32]++prC (s2::c)):=by simp[prC]
  have e2:pos+(znd s++([32,47,32]++prC (s2::c))).length=pos+(znd s).length+1+1+1+(prC (s2::c)).length:=by simp;omega
  rw[e] at hs ⊢
  rw[e2] at hs ⊢
  have hdd:dpC (s::s2::c)=max (dpQ s) (dpC (s2::c)):=rfl
  have hr:TL (pos+(znd s).length) (32::47::32::(prC (s2::c)++tail))=⟨.sign 47,pos+(znd s).length+1,1,[],[]⟩::TL (pos+(znd s).length+1+1+1) (prC (s2::c)++tail):=by
   rw[zka 32 _ _ (by decide),qt 47 _ _ (by decide),zka 32 _ _ (by decide)]
  have e3:znd s++([32,47,32]++prC (s2::c))++tail=znd s++(32::47::32::(prC (s2::c)++tail)):=by simp
  rw[e3]
  obtain⟨k1,k2⟩:=hQ d pos (32::47::32::(prC (s2::c)++tail)) (by omega) ⟨by simp[ZQ,Qu],by rw[hr];simp[hd],by rw[hr];simp[hd],by rw[hr];simp[hd],by rw[hr];simp[hd]⟩ (by rw[hr];rfl)
  rw[hr] at k2
  exact .more k2 rfl (hC d _ tail (by omega) hs)
end
def wn:Nat→Nat→Nt→Prop
 | a,b,.nil=>a≤b
 | a,b,.use _ f t m=>a≤f∧f<t∧t≤b∧wn f t m
 | a,b,.pair m1 m2=>∃ c,wn a c m1∧wn c b m2
theorem zmz {m:Nt}:∀ {a b a' b':Nat},wn a b m→a'≤a→b≤b'→wn a' b' m:=by
 induction m with
 | nil=>intro a b a' b' h h1 h2;have:a≤b:=h;show a'≤b';omega
 | use i f t m _=>intro a b a' b' h h1 h2;obtain⟨g1,g2,g3,g4⟩:=h;exact⟨by omega,g2,by omega,g4⟩
 | pair m1 m2 i1 i2=>intro a b a' b' h h1 h2;obtain⟨c,g1,g2⟩:=h;exact⟨c,i1 g1 h1 (Nat.le_refl _),i2 g2 (Nat.le_refl _) h2⟩
theorem zmH {a b c:Nat} {m n:Nt} (h:wn a c m) (k:wn c b n):wn a b (jn m n):=by
 cases m with
 | nil=>
  have h':a≤c:=h
  cases n<;>exact zmz k h' (Nat.le_refl _)
 | use i f t m=>
  cases n with
  | nil=>exact zmz h (Nat.le_refl _) k
  | use _ _ _ _=>exact⟨c,h,k⟩
  | pair _ _=>exact⟨c,h,k⟩
 | pair m1 m2=>
  cases n with
  | nil=>exact zmz h (Nat.le_refl _) k
  | use _ _ _ _=>exact⟨c,h,k⟩
  | pair _ _=>exact⟨c,h,k⟩
def accN (k0 k:Nat):Ex→Prop
 | .S _ acc=>wn k0 k acc
 | _=>k0=k
theorem Ev.wn {g:List ze} {inp:z7} {x:Ex} {k:Nat} {r:Out} (h:Ev g inp x k r):k≤inp.length→∀ k0,accN k0 k x→∀ e m,r=some (e,m)→Go.Proofs.YtiganlkabilblaaGreatDoor.wn k0 e m:=by
 induction h with
 | cnil=>intro _ k0 _ e m h;cases h
 | chit _ ih=>intro hk k0 ha e m h;exact ih hk k0 (Nat.le_of_eq ha) e m h
 | cmiss _ _ _ ih=>intro hk k0 ha e m h;exact ih hk k0 ha e m h
 | snil=>intro _ k0 ha e m h;cases h;exact ha
 | sfail=>intro _ k0 _ e m h;cases h
 | sstep h1 _ i1 i2=>
  intro hk k0 ha e m h
  have hle:=h1.le hk _ _ rfl
  exact i2 hle.2 k0 (zmH ha (i1 hk _ rfl _ _ rfl)) e m h
 | tplain _ ih=>intro hk k0 ha e m h;exact ih hk k0 ha e m h
 | tand _ _=>
  intro _ k0 ha e m h
  cases ha
  unfold Ja at h
  split at h
  ·cases h;exact Nat.le_refl _
  ·cases h
 | tnot _ _=>
  intro _ k0 ha e m h
  cases ha
  unfold Ja at h
  split at h
  ·cases h;exact Nat.le_refl _
  ·cases h
 | iplain _ ih=>intro hk k0 ha e m h;exact ih hk k0 ha e m h
 | imaybe _ ih=>
  intro hk k0 ha e m h
  rename_i r _
  cases r with
  | none=>cases ha;cases h;exact Nat.le_refl _
  | some x=>exact ih hk k0 ha e m h
 | istar _ ih=>
  intro hk k0 ha e m h
  rename_i r _
  cases r with
  | none=>cases ha;cases h;exact Nat.le_refl _
  | some x=>exact ih hk k0 ha e m h
 | iplus _ ih=>intro hk k0 ha e m h;exact ih hk k0 ha e m h
 | qno=>intro _ k0 _ e m h;cases h
 | qlast _ _ ih _=>intro hk k0 ha e m h;cases h;exact ih hk k0 ha _ _ rfl
 | qmore h1 _ i1 i2=>
  intro hk k0 ha e m h
  have hle:=h1.le hk _ _ rfl
  cases h
  exact zmH (i1 hk k0 ha _ _ rfl) (i2 hle.2 _ rfl _ _ rfl)
 | pname hi hc h1 ih=>
  intro hk k0 ha e m h
  cases ha
  rename_i b k r
  cases r with
  | none=>cases h
  | some x=>
   obtain⟨e',m'⟩:=x
   have hle:=h1.le hk _ _ rfl
   simp only[QZ] at h
   split at h
   ·rename_i hlt
    cases h
    exact⟨Nat.le_refl _,hlt,Nat.le_refl _,ih hk _ rfl _ _ rfl⟩
   ·cases h
    exact hle.1
 | plit hb=>
  intro hk k0 ha e m h
  cases ha
  have:=zbL hk h
  unfold Ya at h
  split at h
  ·cases h;exact Nat.le_add_right _ _
  ·cases h
 | pcls hb=>
  intro _ k0 ha e m h
  cases ha
  have:=Ul h
  unfold Qj at h
  split at h
  ·cases h
  ·split at h
   ·cases h;exact Nat.le_succ _
   ·cases h
 | pany=>
  intro _ k0 ha e m h
  cases ha
  unfold Qj at h
  split at h
  ·cases h
  ·split at h
   ·cases h;exact Nat.le_succ _
   ·cases h
 | pgroup _ ih=>intro hk k0 ha e m h;exact ih hk k0 ha e m h
abbrev zmv:List UInt8:=[102,105,114,115,116]
abbrev g4 (nm:List UInt8) (c:Z5):List ze:=[⟨zmv,[[.mk 0 (.name nm) 0]]⟩,⟨nmS,c⟩,zk6,zjz]
abbrev plB:List UInt8:=[10,110,117,109,32,60,45,32,91,48,45,57,93,32,110,117,109,63,10,119,111,114,100,32,60,45,32,39,97,39,32,119,111,114,100,32,39,98,39,32,47,32,39,99,39,32,39,97,39,63,10]
abbrev reB:List UInt8:=zjP++[10,35,32,101,110,100]
def znB (pos fin:Nat):List Tok:=[⟨.name,pos+1,3,zbT,[]⟩,⟨.arrow,pos+5,2,[],[]⟩,⟨.cls,pos+8,5,[],[(48,57)]⟩,⟨.name,pos+14,3,zbT,[]⟩,⟨.sign 63,pos+17,1,[],[]⟩,⟨.name,pos+19,4,zbU,[]⟩,⟨.arrow,pos+24,2,[],[]⟩,⟨.lit,pos+27,3,[97],[]⟩,⟨.name,pos+31,4,zbU,[]⟩,⟨.lit,pos+36,3,[98],[]⟩,⟨.sign 47,pos+40,1,[],[]⟩,⟨.lit,pos+42,3,[99],[]⟩,⟨.lit,pos+46,3,[97],[]⟩,⟨.sign 63,pos+49,1,[],[]⟩,⟨.fin,fin,0,[],[]⟩]
theorem zou (pos:Nat):TL pos plB=znB pos (pos+51):=by rfl
theorem zov (pos:Nat):TL pos reB=znB pos (pos+56):=by rfl
theorem zp8 (pos fin:Nat):ZU 1 (znB pos fin) (.ok [zk6,zjz]):=by
 unfold znB
 refine .more (.ok rfl rfl (by decide) (.last (.cons rfl (zk1 rfl rfl rfl) (.cons rfl (zkz rfl (fun _=>rfl)) (.nil rfl))) (by simp[hd]))) (by simp[hd]) (.last (.ok rfl rfl (by decide) (.more (.cons rfl (zk1 rfl rfl rfl) (.cons rfl (zk1 rfl rfl rfl) (.cons rfl (zk1 rfl rfl rfl) (.nil rfl)))) rfl (.last (.cons rfl (zk1 rfl rfl rfl) (.cons rfl (zkz rfl (fun _=>rfl)) (.nil rfl))) (by simp[hd])))) rfl)
theorem zqp (pos:Nat):Stop 0 pos plB:=by
 refine⟨rfl,?_,?_,?_,?_,?_,?_⟩<;>rw[zou]<;>simp[znB,hd,zX,TK.isArrow]
theorem zqq (pos:Nat):Stop 0 pos reB:=by
 refine⟨rfl,?_,?_,?_,?_,?_,?_⟩<;>rw[zov]<;>simp[znB,hd,zX,TK.isArrow]
theorem znP (c:Z5):prG (gs c)=hdB++(prC c++plB):=by
 have h1:prR zk6=[110,117,109,32,60,45,32,91,48,45,57,93,32,110,117,109,63,10]:=by
  simp[prR,prC,znd,prS,prT,prP,zne,znv,zng,znf]
 have h2:prR zjz=[119,111,114,100,32,60,45,32,39,97,39,32,119,111,114,100,32,39,98,39,32,47,32,39,99,39,32,39,97,39,63,10]:=by
  simp[prR,prC,znd,prS,prT,prP,zne,znr,znf]
 simp only[prG,List.flatMap_cons,List.flatMap_nil,h1,h2]
 simp[prR]
theorem zq0 {c:Z5} (hne:c≠[]) (hm:plC c) (hd':dpC c≤6):ZU 0 (Qn (prG (gs c))) (.ok (gs (nfC c))):=by
 rw[znP,YZ,zkQ]
 have h1:=rdC c hne hm 0 5 plB (by omega) (zqp _)
 rw[zou] at h1
 exact .more (.ok rfl rfl (by decide) h1) (by simp[znB,hd]) (zp8 _ _)
theorem zpW (c:Z5):prG (gs (nfC c))=prG (gs c):=by
 rw[znP,znP,zoo]
abbrev znC (c:Z5):Z5:=[[.mk 0 (.group [[.mk 0 (.group c) 0]]) 0]]
theorem zq2 (c:Z5):prG (gs (znC c))=prG (gs c)∨(prG (gs (znC c))).length=(prG (gs c)).length+2:=by
 have e:prC (znC c)=prP (.group c) false:=by
  have h1:prC (znC c)=prT (.mk 0 (.group [[.mk 0 (.group c) 0]]) 0):=by simp[prC,znd,prS]
  rw[h1,znk,zno,if_pos ⟨rfl,rfl⟩]
 rw[znP,znP,e]
 rcases znq c with rfl | ⟨a,p,b,rfl⟩ | hw
 ·left
  simp[prP,prC,znd]
 ·left
  rw[zno]
  have h2:prC [[.mk a p b]]=prT (.mk a p b):=by simp[prC,znd,prS]
  rw[h2]
  by_cases h:a=0∧b=0
  ·obtain⟨rfl,rfl⟩:=h
   rw[if_pos ⟨rfl,rfl⟩,znk]
  ·rw[if_neg h]
   simp
 ·right
  rw[zns hw]
  simp
abbrev otB (x:List UInt8):List UInt8:=[35,10,32,115,60,45]++(brk [] (brk [] x)++reB)
theorem zpn (rest:List UInt8):TL 0 ([35,10,32,115,60,45]++rest)=⟨.name,3,1,nmS,[]⟩::⟨.arrow,4,2,[],[]⟩::TL 6 rest:=by
 have h0:=zkn [35,10,32] ([115,60,45]++rest) 0 (by simp[blk,Y9])
 have h1:=zk3 [115] ([60,45]++rest) 3 ⟨.name,0,1,nmS,[]⟩ (by simp[blk,Y9]) (by simp[zM,Qu,Ql,ZQ]) rfl rfl
 have h3:=zk3 [60,45] rest 4 ⟨.arrow,0,2,[],[]⟩ (by simp[blk,Y9]) (by simp[zM,Qu]) rfl rfl
 simp only[List.cons_append,List.nil_append,List.length_cons,List.length_nil] at h0 h1 h3 ⊢
 rw[h0,h1,h3]
theorem zpR {x:List UInt8} {dep:Nat} {c:Z5} (hx:Px x dep c) (hd':dep≤4):ZU 0 (Qn (otB x)) (.ok (gs (znC c))):=by
 have hb:([]:List UInt8) ∈ z4:=by simp[z4]
 rw[YZ,zpn]
 have h1:=zkL hb (zkL hb hx) 0 6 reB (by omega) (zqq _)
 rw[zov] at h1
 exact .more (.ok rfl rfl (by decide) h1) (by simp[znB,hd]) (zp8 _ _)
theorem zot {c:Z5} {e:Bool} (h:Gt c e):Gt (znC c) e:=by
 have h1:=zb 0 0 (zb 0 0 h (fun _=>by decide)) (fun _=>by decide)
 simpa using h1
theorem zqt {c:Z5} {inp:z7} {n na:Option Nat} (h:Tk (znC c) inp n) (ha:Tk c inp na) (hi:inC zkf c):n=na:=by
 obtain⟨o,ho,rfl⟩:=h
 obtain⟨r,hT,he⟩:=zlB ho
 obtain⟨r2,hT2,he2⟩:=zlB (zlA hT)
 rw[he,he2]
 exact ha.of hi (zlA hT2)
mutual
theorem znZ (E:z7→Bool):∀ p:zC,Ze E (nfP p)=Ze E p∧Zu E (nfU p)=Ze E p
 | .name b=>⟨rfl,by simp[nfU,Zu]⟩
 | .lit b=>⟨rfl,by simp[nfU,Zu]⟩
 | .cls l=>⟨rfl,by simp[nfU,Zu]⟩
 | .any=>⟨rfl,by simp[nfU,Zu]⟩
 | .group c=>by
  have hC:=zod E c
  rcases znq c with rfl | ⟨a,p,b,rfl⟩ | hw
  ·exact⟨by simp[nfP],by simp[nfU,Zu]⟩
  ·have hp:=znZ E p
   have e:Ze E (.group [[.mk a p b]])=Zu E (.mk a p b):=by simp[Ze,Zl,ZH]
   rw[zny,znA,e]
   by_cases h:a=0∧b=0
   ·obtain⟨rfl,rfl⟩:=h
    rw[if_pos ⟨rfl,rfl⟩,if_pos ⟨rfl,rfl⟩]
    have e2:Zu E (.mk 0 p 0)=Ze E p:=by simp[Zu]
    rw[e2]
    exact hp
   ·rw[if_neg h,if_neg h,znj h]
    have e2:Zu E (.mk a (nfP p) b)=Zu E (.mk a p b):=by simp only[Zu];rw[hp.1]
    exact⟨by simp only[Ze,Zl,ZH,Bool.and_true,Bool.or_false];exact e2,e2⟩
  ·rw[znH hw,znI hw]
   exact⟨by simp only[Ze];exact hC,by simp only[Zu,Ze];rw[hC];simp⟩
theorem zoK (E:z7→Bool):∀ t:Term,Zu E (nfT t)=Zu E t
 | .mk a p b=>by
  have hp:=znZ E p
  by_cases h:a=0∧b=0
  ·obtain⟨rfl,rfl⟩:=h
   rw[znz,hp.2]
   simp[Zu]
  ·rw[znj h]
   simp only[Zu]
   rw[hp.1]
theorem zoJ (E:z7→Bool):∀ s:List Term,ZH E (nfS s)=ZH E s∧ZH E (nfQ s)=ZH E s
 | []=>⟨rfl,by simp[nfQ,ZH,Zu,Ze,Zl]⟩
 | t::s=>by
  have h1:=zoK E t
  have h2:=(zoJ E s).1
  simp only[nfS,nfQ,ZH]
  rw[h1,h2]
  exact⟨rfl,rfl⟩
theorem zod (E:z7→Bool):∀ c:List (List Term),Zl E (nfC c)=Zl E c
 | []=>rfl
 | s::c=>by
  simp only[nfC,Zl]
  rw[(zoJ E s).2,zod E c]
end
mutual
theorem zoN (E:z7→Bool):∀ p:zC,Zy E (nfP p)=Zy E p∧JR E (nfU p)=Zy E p
 | .name b=>⟨rfl,by simp[nfU,JR]⟩
 | .lit b=>⟨rfl,by simp[nfU,JR]⟩
 | .cls l=>⟨rfl,by simp[nfU,JR]⟩
 | .any=>⟨rfl,by simp[nfU,JR]⟩
 | .group c=>by
  have hC:=zoe E c
  rcases znq c with rfl | ⟨a,p,b,rfl⟩ | hw
  ·exact⟨by simp[nfP],by simp[nfU,JR]⟩
  ·have hp:=zoN E p
   have e:Zy E (.group [[.mk a p b]])=Zy E p:=by simp[Zy,ZC,Q2,JR]
   rw[zny,znA,e]
   by_cases h:a=0∧b=0
   ·rw[if_pos h,if_pos h]
    exact hp
   ·rw[if_neg h,if_neg h,znj h]
    exact⟨by simp only[Zy,ZC,Q2,JR,List.append_nil];simp[hp.1],by simp only[JR];exact hp.1⟩
  ·rw[znH hw,znI hw]
   exact⟨by simp only[Zy];exact hC,by simp only[JR,Zy];exact hC⟩
theorem fstT (E:z7→Bool):∀ t:Term,JR E (nfT t)=JR E t
 | .mk a p b=>by
  have hp:=zoN E p
  by_cases h:a=0∧b=0
  ·obtain⟨rfl,rfl⟩:=h
   rw[znz,hp.2]
   simp[JR]
  ·rw[znj h]
   simp only[JR]
   exact hp.1
theorem zoO (E:z7→Bool):∀ s:List Term,Q2 E (nfS s)=Q2 E s∧Q2 E (nfQ s)=Q2 E s
 | []=>⟨rfl,by simp[nfQ,Q2,JR,Zy,ZC]⟩
 | t::s=>by
  have h1:=fstT E t
  have h2:=(zoO E s).1
  have h3:=zoK E t
  simp only[nfS,nfQ,Q2]
  rw[h1,h2,h3]
  exact⟨rfl,rfl⟩
theorem zoe (E:z7→Bool):∀ c:List (List Term),ZC E (nfC c)=ZC E c
 | []=>rfl
 | s::c=>by
  simp only[nfC,ZC]
  rw[(zoO E s).2,zoe E c]
end
theorem znG (E:z7→Bool) (a:UInt8) (p:zC):zJ E (.mk a p 0)=false:=by simp[zJ,Term.behind]
mutual
theorem zoW (E:z7→Bool):∀ p:zC,Zi (zJ E) p=false→Zi (zJ E) (nfP p)=false∧ZG (zJ E) (nfU p)=false
 | .name b,_=>⟨rfl,by simp[nfU,ZG,znG,Zi]⟩
 | .lit b,_=>⟨rfl,by simp[nfU,ZG,znG,Zi]⟩
 | .cls l,_=>⟨rfl,by simp[nfU,ZG,znG,Zi]⟩
 | .any,_=>⟨rfl,by simp[nfU,ZG,znG,Zi]⟩
 | .group c,h=>by
  have h':zx (zJ E) c=false:=h
  have hC:=zoi E c h'
  rcases znq c with rfl | ⟨a,p,b,rfl⟩ | hw
  ·exact⟨by simp[nfP,Zi,zx,Zc],by simp[nfU,ZG,znG,Zi,zx,Zc]⟩
  ·have ht:ZG (zJ E) (.mk a p b)=false:=by simpa [zx,Zc] using h'
   have hl:zJ E (.mk a p b)=false∧Zi (zJ E) p=false:=by simpa [ZG] using ht
   have hp:=zoW E p hl.2
   rw[zny,znA]
   by_cases h9:a=0∧b=0
   ·rw[if_pos h9,if_pos h9]
    exact hp
   ·rw[if_neg h9,if_neg h9,znj h9]
    have e:ZG (zJ E) (.mk a (nfP p) b)=false:=by
     have e1:zJ E (.mk a (nfP p) b)=zJ E (.mk a p b):=by simp only[zJ,Term.behind,Term.piece];rw[(znZ E p).1]
     simp only[ZG]
     rw[e1,hl.1,hp.1]
     rfl
    exact⟨by simp only[Zi,zx,Zc,Bool.or_false];exact e,e⟩
  ·rw[znH hw,znI hw]
   exact⟨by simp only[Zi];exact hC,by simp only[ZG,znG,Zi];rw[hC];rfl⟩
theorem lopT (E:z7→Bool):∀ t:Term,ZG (zJ E) t=false→ZG (zJ E) (nfT t)=false
 | .mk a p b,ht=>by
  have hl:zJ E (.mk a p b)=false∧Zi (zJ E) p=false:=by simpa [ZG] using ht
  have hp:=zoW E p hl.2
  by_cases h9:a=0∧b=0
  ·obtain⟨rfl,rfl⟩:=h9
   rw[znz]
   exact hp.2
  ·rw[znj h9]
   have e1:zJ E (.mk a (nfP p) b)=zJ E (.mk a p b):=by simp only[zJ,Term.behind,Term.piece];rw[(znZ E p).1]
   simp only[ZG]
   rw[e1,hl.1,hp.1]
   rfl
theorem zoX (E:z7→Bool):∀ s:List Term,Zc (zJ E) s=false→Zc (zJ E) (nfS s)=false∧Zc (zJ E) (nfQ s)=false
 | [],_=>⟨rfl,by simp[nfQ,Zc,ZG,znG,Zi,zx]⟩
 | t::s,h=>by
  have h':ZG (zJ E) t=false∧Zc (zJ E) s=false:=by simpa [Zc] using h
  have h1:=lopT E t h'.1
  have h2:=(zoX E s h'.2).1
  simp only[nfS,nfQ,Zc]
  rw[h1,h2]
  exact⟨rfl,rfl⟩
theorem zoi (E:z7→Bool):∀ c:List (List Term),zx (zJ E) c=false→zx (zJ E) (nfC c)=false
 | [],_=>rfl
 | s::c,h=>by
  have h':Zc (zJ E) s=false∧zx (zJ E) c=false:=by simpa [zx] using h
  simp only[nfC,zx]
  rw[(zoX E s h'.1).2,zoi E c h'.2]
  rfl
end
mutual
theorem zoQ {l:List z7}:∀ p:zC,inP l p→inP l (nfP p)∧inT l (nfU p)
 | .name b,h=>⟨h,by simp only[nfU,inT];exact h⟩
 | .lit b,h=>⟨h,by simp only[nfU,inT];exact h⟩
 | .cls c,h=>⟨h,by simp only[nfU,inT];exact h⟩
 | .any,h=>⟨h,by simp only[nfU,inT];exact h⟩
 | .group c,h=>by
  have h':inC l c:=h
  have hC:=zog c h'
  rcases znq c with rfl | ⟨a,p,b,rfl⟩ | hw
  ·exact⟨by simp[nfP,inP,inC,inS],by simp[nfU,inT,inP,inC,inS]⟩
  ·have hp:=zoQ p h'.1.1
   rw[zny,znA]
   by_cases h9:a=0∧b=0
   ·rw[if_pos h9,if_pos h9]
    exact hp
   ·rw[if_neg h9,if_neg h9,znj h9]
    exact⟨⟨⟨hp.1,trivial⟩,trivial⟩,hp.1⟩
  ·rw[znH hw,znI hw]
   exact⟨hC,hC⟩
theorem zoR {l:List z7}:∀ t:Term,inT l t→inT l (nfT t)
 | .mk a p b,h=>by
  have hp:=zoQ p h
  by_cases h9:a=0∧b=0
  ·obtain⟨rfl,rfl⟩:=h9
   rw[znz]
   exact hp.2
  ·rw[znj h9]
   exact hp.1
theorem zoh {l:List z7}:∀ s:List Term,inS l s→inS l (nfS s)∧inS l (nfQ s)
 | [],_=>⟨trivial,by simp[nfQ,inS,inT,inP,inC]⟩
 | t::s,h=>⟨⟨zoR t h.1,(zoh s h.2).1⟩,⟨zoR t h.1,(zoh s h.2).1⟩⟩
theorem zog {l:List z7}:∀ c:List (List Term),inC l c→inC l (nfC c)
 | [],_=>trivial
 | s::c,h=>⟨(zoh s h.1).2,zog c h.2⟩
end
mutual
theorem zqv {l:List z7}:∀ p:zC,inP l p→Zi (zv l) p=false
 | .group c,h=>by simp only[Zi];exact zoq c h
 | .name _,_=>rfl
 | .lit _,_=>rfl
 | .cls _,_=>rfl
 | .any,_=>rfl
theorem zqw {l:List z7}:∀ t:Term,inT l t→ZG (zv l) t=false
 | .mk a p b,h=>by
  have h1:=zqv p h
  simp only[ZG]
  rw[h1,Bool.or_false]
  cases p with
  | name b=>
   have:b ∈ l:=h
   simp[zv,Term.piece,this]
  | _=>rfl
theorem zpf {l:List z7}:∀ s:List Term,inS l s→Zc (zv l) s=false
 | [],_=>rfl
 | t::s,h=>by simp only[Zc];rw[zqw t h.1,zpf s h.2];rfl
theorem zoq {l:List z7}:∀ c:List (List Term),inC l c→zx (zv l) c=false
 | [],_=>rfl
 | s::c,h=>by simp only[zx];rw[zpf s h.1,zoq c h.2];rfl
end
theorem zo7 {c:Z5} {e:Bool} (h:Gt c e):Gt (nfC c) e:=by
 refine⟨zoq _ (zog c h.names),fun E h1 h2=>?_⟩
 obtain⟨q1,q2,q3⟩:=h.2 E h1 h2
 refine⟨by rw[zod];exact q1,zoi E c q2,?_⟩
 rw[zoe]
 exact q3
end Go.Proofs.YtiganlkabilblaaGreatDoor
