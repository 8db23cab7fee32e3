import Derived.Test.YtiganlkabilblaaDoorV03
import Derived.Test.YtiganlkabilblaaDoorV00
import Derived.Maps.Own
import Derived.Maps.OwnOps
import Derived.Maps.OwnSet
import Derived.Maps.Views
set_option linter.all false
set_option maxHeartbeats 64000000
set_option maxRecDepth 100000
namespace Go.Proofs.YtiganlkabilblaaDoor
open Go.RowKit
theorem zit (w:World) (rb tb tc:Nat) (ps:List (Thk.Tok × Value)) (m n:Nat) (h:Rd w rb tb tc ps n 0) (hg:QE ps) (hn:n<ps.length) (hm:m≤20) (hk:ps[n].1.kind = .name) :
  Calls Tryd.prog 31 #[.pointer (some ⟨rb,0,none⟩),.int .i64 m] w fun e w'=>qC w rb tb tc ps m n e w':=by
 have hrl:=h.lt
 have hl:=h.2.2.1
 have HTX:Hid (ps[n].1.text.length≤2000):=h.2.2.2 ps[n] (List.getElem_mem hn)
 have hex:=qR (w.alloc Jr) rb tb tc ps n 0 (h.below (zc _ _)) hn 2 (by rw[hk];rfl)
 have hn1:n+1<ps.length:=(hg n hn).2 (by rw[hk];rfl)
 have hok1:=(hg (n+1) hn1).1
 obtain⟨a0,b0,e0⟩:=zl (h.2.1.2 ps[n] (List.getElem_mem hn))
 obtain⟨a1,b1,e1⟩:=zl (h.2.1.2 ps[n+1] (List.getElem_mem hn1))
 simp only[zP,e0] at hex
 have HK:Hid (ps[n].1.kind = .name):=hk
 have E1:Hid (ps[n+1].2 = .slice a1 ps[n+1].1.spans.length b1):=e1
 clear e0 h hk e1
 go_enter Tryd.func31,Tryd.ntmps31
 go_wp2_with fail
 refine hex.mono ?_
 rintro e w1 ⟨rfl,hR1,hK1⟩
 have hsz1:=hK1.size
 simp at hsz1
 have hrc1:w1.heap[w.heap.size]? = some Jr:=by rw[VB hK1 (by simp) (by omega)];exact zk _ _
 have hlt1:w.heap.size<w1.heap.size:=by omega
 have HK1:Hid (Kp rb w.heap.size w w1):=(Kp.of (zc _ _)).trans (hK1.mono (by simp))
 obtain⟨O,hO⟩:∃ O:Obj,O = .cells #[.int .u8 (zt ps[n].1.kind),.int .i64 ↑ps[n].1.place,.string ⟨List.toArray ps[n].1.text⟩,.slice a0 ps[n].1.spans.length b0] 84:=⟨_,rfl⟩
 have hR1':Rd (w1.alloc O) rb tb tc ps (n+1) 0:=hR1.below (zc _ _)
 have hrc1':(w1.alloc O).heap[w.heap.size]? = some Jr:=by rw[zm _ _ hlt1];exact hrc1
 have hkd:=JA (w1.alloc O) rb tb tc ps (n+1) 0 hR1' hn1 _ rfl
 have hrf:=fun q=>UU ((w1.alloc O).drewN q) rb tb tc ps (n+1) 0 hR1' hn1 4
 have hey:=fun q (hK3:zt ps[n+1].1.kind=3)=>qR ((w1.alloc O).drewN q) rb tb tc ps (n+1) 0 hR1' hn1 3 hK3
 have hen:=fun q (hK3:zt ps[n+1].1.kind≠3)=>qQ ((w1.alloc O).drewN q) rb tb tc ps (n+1) 0 hR1' hn1 3 hK3
 simp only[zP,E1.out] at hey hen
 have H1:Hid (Rd (w1.alloc O) rb tb tc ps (n+1) 0):=hR1'
 have HRC:Hid ((w1.alloc O).heap[w.heap.size]? = some Jr):=hrc1'
 have HW:Hid (Kp rb w.heap.size w (w1.alloc O)):=HK1.out.alloc (by omega) O
 have hszO:(w1.alloc O).heap.size=w1.heap.size+1:=by simp
 have hname:(w1.alloc O).cell? ⟨w1.heap.size,2,none⟩=some (.string ⟨List.toArray ps[n].1.text⟩):=by rw[hO];simp
 have HR1:Hid (Rd w1 rb tb tc ps (n+1) 0):=hR1
 have HRC1:Hid (w1.heap[w.heap.size]? = some Jr):=hrc1
 subst hO
 clear hex hR1 hK1 hrc1 hR1' hrc1'
 have q1:=z8 HRC.out
 have f1:=zi HRC.out
 rcases zfC hok1 with ⟨hka,hki⟩ | ⟨hka,hki⟩
 ·by_cases hm20:m=20
  ·subst hm20
   rw[hki] at hkd
   have HKA:Hid (ps[n+1].1.kind = .arrow):=hka
   clear hka hey hen
   go_wp2_with (first | (go_at_call 32;refine hkd.mono ?_;rintro e w2 ⟨rfl,q,rfl⟩) | (go_at_call 53;refine (hrf _).mono ?_;rintro e w3 ⟨rfl,q2,rfl⟩))
   refine bodyPost_ret (v:=.tuple #[.agg #[.string ⟨#[]⟩,.slice none 0 0],zS 4 ps[n+1].1.place]) (by simp[results,Tryd.results31,go_sem,zS,q1,hlt1,HRC1.out,z8 HRC1.out]) rfl ?_
   refine⟨.err 4 ps[n+1].1.place,?_,?_,_,rfl,n+1,?_⟩
   ·rw[← Z0 hn1,← Qy hn];exact .many (by rw[Z0 hn];exact HK.out) (by rw[Qy hn,Z0 hn1];exact HKA.out)
   ·exact ((HW.out.drewN _).setCell (Nat.le_refl _) _).setCell (Nat.le_refl _) _
   ·refine (H1.out.drewN (q+q2)).other (b:=w.heap.size) (fun g hg _=>?_) HRC.out (by decide) (by decide) (by decide)
    rw[Below.heap_setCell _ _ _ _ hg,Below.heap_setCell _ _ _ _ hg]
  ·have tm:((m:Int) == 20)=false:=beq_eq_false_iff_ne.2 (by omega)
   rw[hki] at hkd
   have HKA:Hid (ps[n+1].1.kind = .arrow):=hka
   have hey':=fun q=>hey q hki
   have hn2:n+1+1<ps.length:=(hg (n+1) hn1).2 (by rw[hka];rfl)
   clear hka hey hen hrf
   go_wp2_with (first | (go_at_call 32;refine hkd.mono ?_;rintro e w2 ⟨rfl,q,rfl⟩))
   refine (hey' q).mono ?_
   rintro e w3 ⟨rfl,hR3,hK3⟩
   have hsz3:=hK3.size
   simp only[World.heap_drewN,hszO] at hsz3
   have hrc3:w3.heap[w.heap.size]? = some Jr:=by
    rw[VB hK3 (by simp;omega) (by omega)];exact HRC.out
   have hK3':Kp rb w.heap.size w w3:=(HW.out.drewN q).trans (hK3.mono (by simp;omega))
   have hnm3:w3.cell? ⟨w1.heap.size,2,none⟩=some (.string ⟨List.toArray ps[n].1.text⟩):=by
    rw[JS hK3 (by simp) (by omega)];exact hname
   obtain⟨O2,hO2⟩:∃ O:Obj,O = .cells #[.int .u8 3,.int .i64 ↑ps[n+1].1.place,.string ⟨List.toArray ps[n+1].1.text⟩,.slice a1 ps[n+1].1.spans.length b1] 84:=⟨_,rfl⟩
   have hch:=zel rb tb tc ps hg ps.length (w3.alloc O2) (n+1+1) 0 (hR3.below (zc _ _)) hn2 (by omega) (by omega)
   have hsz4:(w3.alloc O2).heap.size=w3.heap.size+1:=by simp
   have hrc4:(w3.alloc O2).heap[w.heap.size]? = some Jr:=by rw[zm _ _ (by omega)];exact hrc3
   have hnm4:(w3.alloc O2).cell? ⟨w1.heap.size,2,none⟩=some (.string ⟨List.toArray ps[n].1.text⟩):=by
    rw[World.cell?_alloc_lt _ _ _ (by simp only[];omega)];exact hnm3
   have HK4:Hid (Kp rb w.heap.size w (w3.alloc O2)):=hK3'.alloc (by omega) _
   subst hO2
   clear hR3 hK3 hrc3 hnm3 hK3' hkd hey' q1 f1 hname
   go_wp2_with fail
   refine hch.mono ?_
   rintro e w5 ⟨res,hP,hK5,hE⟩
   have hsz5:=hK5.size
   rw[hsz4] at hsz5
   have hrc5:w5.heap[w.heap.size]? = some Jr:=by rw[VB hK5 (by rw[hsz4];omega) (by omega)];exact hrc4
   have hnm5:w5.cell? ⟨w1.heap.size,2,none⟩=some (.string ⟨List.toArray ps[n].1.text⟩):=by
    rw[JS hK5 (by rw[hsz4];omega) (by omega)];exact hnm4
   have HK5:Hid (Kp rb w.heap.size w w5):=HK4.out.trans (hK5.mono (by rw[hsz4];omega))
   have HP:Hid (Thk.Z8 0 (zu ps (n+1+1)) res):=hP
   have HRC5:Hid (w5.heap[w.heap.size]? = some Jr):=hrc5
   have q5:=z8 hrc5
   have f5:=zi hrc5
   have hlt5:w.heap.size<w5.heap.size:=by omega
   have hot:∀ u1 u2 g,g≠w.heap.size→g<w5.heap.size→((w5.setCell ⟨w.heap.size,0,none⟩ u1).setCell ⟨w.heap.size,1,none⟩ u2).heap[g]? = w5.heap[g]? := by
    intro u1 u2 g hg _
    rw[Below.heap_setCell _ _ _ _ hg,Below.heap_setCell _ _ _ _ hg]
   have HOT:Hid (∀ u1 u2 g,g≠w.heap.size→g<w5.heap.size→((w5.setCell ⟨w.heap.size,0,none⟩ u1).setCell ⟨w.heap.size,1,none⟩ u2).heap[g]? = w5.heap[g]?):=hot
   clear hch hK5 hrc5 hP hot hnm4 hrc4
   have hts:(zu ps n).tail.tail=zu ps (n+1+1):=by rw[Qy hn,Qy hn1]
   have HTS:Hid ((zu ps n).tail.tail=zu ps (n+1+1)):=hts
   clear hts
   cases res with
   | err er p=>
    obtain⟨rfl,n',hR5⟩:=hE
    simp only[zS]
    have H5:Hid (Rd w5 rb tb tc ps n' 0):=hR5
    clear hR5
    go_wp2_with fail
    refine bodyPost_ret (v:=.tuple #[.agg #[.string ⟨List.toArray ps[n].1.text⟩,.slice none 0 0],zS er p]) (by simp[results,Tryd.results31,go_sem,zS,q5,hlt5]) rfl ?_
    refine⟨.err er p,?_,?_,_,rfl,n',?_⟩
    ·exact .err (by rw[Z0 hn];exact HK.out) (by rw[Qy hn,Z0 hn1];exact HKA.out) hm20 (by rw[HTS.out];exact HP.out)
    ·exact (HK5.out.setCell (Nat.le_refl _) _).setCell (Nat.le_refl _) _
    ·exact H5.out.other (b:=w.heap.size) (HOT.out _ _) HRC5.out (by decide) (by decide) (by decide)
   | ok c rest=>
    obtain⟨n',a,l,cp,rfl,hle,hn',rfl,hRC,hR5⟩:=hE
    have H5:Hid (Rd w5 rb tb tc ps n' 0):=hR5
    rw[hsz4] at hRC
    have HRCC:Hid (Zt w5 (w3.heap.size+1≤·) c (.slice a l cp)):=hRC
    clear hR5 hRC
    go_wp2_with fail
    refine bodyPost_ret (v:=.tuple #[.agg #[.string ⟨List.toArray ps[n].1.text⟩,.slice a l cp],.nilIface]) (by simp[results,Tryd.results31,go_sem,q5,hlt5]) rfl ?_
    refine⟨.ok ⟨ps[n].1.text,c⟩ (zu ps n'),?_,?_,n',a,l,cp,rfl,by omega,hn',rfl,?_,?_,HTX.out⟩
    ·have:=Thk.ZV.ok (n:=m) (ts:=zu ps n) (c:=c) (rest:=zu ps n') (by rw[Z0 hn];exact HK.out) (by rw[Qy hn,Z0 hn1];exact HKA.out) hm20 (by rw[HTS.out];exact HP.out)
     rw[Z0 hn] at this
     exact this
    ·exact (HK5.out.setCell (Nat.le_refl _) _).setCell (Nat.le_refl _) _
    ·have hs:Sm (w3.heap.size+1≤·) w5 ((w5.setCell ⟨w.heap.size,0,none⟩ (.string ⟨List.toArray ps[n].1.text⟩)).setCell ⟨w.heap.size,1,none⟩ (.slice a l cp)):=⟨fun u l hl=>VL hl (HOT.out _ _) HRC5.out (by decide),fun g hg ha=>HOT.out _ _ g (by omega) hg⟩
     exact (HRCC.out.kept hs).mono (fun g _ hg=>by omega)
    ·exact H5.out.other (b:=w.heap.size) (HOT.out _ _) HRC5.out (by decide) (by decide) (by decide)
 ·have HKA:Hid (ps[n+1].1.kind≠.arrow):=hka
  have tk:(zt ps[n+1].1.kind == 3)=false:=beq_eq_false_iff_ne.2 hki
  have hen':=fun q=>hen q hki
  clear hka hey hen hrf hki
  generalize zt ps[n+1].1.kind=K at *
  go_wp2_with (first | (go_at_call 32;refine hkd.mono ?_;rintro e w2 ⟨rfl,q,rfl⟩))
  refine (hen' q).mono ?_
  rintro e w3 ⟨rfl,hR3,hK3⟩
  have hsz3:=hK3.size
  simp only[World.heap_drewN,hszO] at hsz3
  have hrc3:w3.heap[w.heap.size]? = some Jr:=by
   rw[VB hK3 (by simp;omega) (by omega)];exact HRC.out
  have HK3:Hid (Kp rb w.heap.size w w3):=(HW.out.drewN q).trans (hK3.mono (by simp;omega))
  have H3:Hid (Rd w3 rb tb tc ps (n+1) 0):=hR3
  have HRC3:Hid (w3.heap[w.heap.size]? = some Jr):=hrc3
  have q3:=z8 hrc3
  have f3:=zi hrc3
  have hlt3:w.heap.size<w3.heap.size:=by omega
  clear hR3 hK3 hrc3 hkd hen' q1 f1 hname
  go_wp2_with fail
  refine bodyPost_ret (v:=.tuple #[.agg #[.string ⟨#[]⟩,.slice none 0 0],zS 2 ps[n+1].1.place]) (by simp[results,Tryd.results31,go_sem,zS,q3,hlt3]) rfl ?_
  refine⟨.err 2 ps[n+1].1.place,?_,?_,_,rfl,n+1,?_⟩
  ·rw[← Z0 hn1,← Qy hn];exact .noArrow (by rw[Z0 hn];exact HK.out) (by rw[Qy hn,Z0 hn1];exact HKA.out)
  ·exact ((HK3.out.setCell (Nat.le_refl _) _).setCell (Nat.le_refl _) _).alloc (by simp;omega) _
  ·refine (H3.out.other (b:=w.heap.size) (fun g hg _=>?_) HRC3.out (by decide) (by decide) (by decide)).below (zc _ _)
   rw[Below.heap_setCell _ _ _ _ hg,Below.heap_setCell _ _ _ _ hg]
theorem ziq (w:World) (rb tb tc:Nat) (ps:List (Thk.Tok × Value)) (m n:Nat) (h:Rd w rb tb tc ps n 0) (hg:QE ps) (hn:n<ps.length) (hm:m≤20) :
  Calls Tryd.prog 31 #[.pointer (some ⟨rb,0,none⟩),.int .i64 m] w fun e w'=>qC w rb tb tc ps m n e w':=by
 rcases zfG (hg n hn).1 with ⟨hk,_⟩ | ⟨hk,hki⟩
 ·exact zit w rb tb tc ps m n h hg hn hm hk
 ·exact ziu w rb tb tc ps m n h hn hk hki
def J0:List Thk.ze→List Value→List Value
 | r::g,v::vs=>.string ⟨r.name.toArray⟩::v::J0 g vs
 | _,_=>[]
def zW (w:World) (A:Nat→Prop):List Thk.ze→List Value→Prop
 | [],vs=>vs=[]
 | r::g,vs=>∃ v vs',vs=v::vs'∧(Zt w A r.choice v∧r.name.length≤2000)∧zW w A g vs'
theorem zW.kept {w w':World} {A:Nat→Prop} (h:Sm A w w'):∀ {g:List Thk.ze} {vs:List Value},zW w A g vs→zW w' A g vs
 | [],_,hs=>hs
 | _::_,_,⟨v,vs',hv,hc,hs⟩=>⟨v,vs',hv,⟨hc.1.kept h,hc.2⟩,zW.kept h hs⟩
theorem zW.mono {w:World} {A A':Nat→Prop} (h:∀ g,g<w.heap.size→A g→A' g):∀ {g:List Thk.ze} {vs:List Value},zW w A g vs→zW w A' g vs
 | [],_,hs=>hs
 | _::_,_,⟨v,vs',hv,hc,hs⟩=>⟨v,vs',hv,⟨hc.1.mono h,hc.2⟩,zW.mono h hs⟩
theorem zW.length {w:World} {A:Nat→Prop}:∀ {g:List Thk.ze} {vs:List Value},zW w A g vs→g.length=vs.length
 | [],_,hs=>by simp only[zW] at hs;subst hs;rfl
 | _::_,_,⟨v,vs',hv,hc,hs⟩=>by subst hv;simp[zW.length hs]
theorem zW.snoc {w:World} {A:Nat→Prop} {r:Thk.ze} {v:Value} (hr:Zt w A r.choice v∧r.name.length≤2000):∀ {g:List Thk.ze} {vs:List Value},zW w A g vs→zW w A (g++[r]) (vs++[v])
 | [],_,hs=>by simp only[zW] at hs;subst hs;exact⟨v,[],rfl,hr,rfl⟩
 | _::_,_,⟨v',vs',hv,hc,hs⟩=>by subst hv;exact⟨v',vs'++[v],rfl,hc,zW.snoc hr hs⟩
theorem zio (g:List Thk.ze) (vs:List Value) (h:g.length=vs.length) (r:Thk.ze) (v:Value):J0 (g++[r]) (vs++[v])=J0 g vs++[.string ⟨r.name.toArray⟩,v]:=by
 induction g generalizing vs with
 | nil=>cases vs with
  | nil=>rfl
  | cons _ _=>simp at h
 | cons t s ih=>cases vs with
  | nil=>simp at h
  | cons u vs=>simp only[List.cons_append,J0];rw[ih vs (by simpa using h)]
def Zj (w:World) (A:Nat→Prop) (g:List Thk.ze) (v:Value):Prop:=∃ vs,Row w A 90 2 v g.length (J0 g vs)∧zW w A g vs
def zaj (g:List Thk.ze):Except (Nat × Nat) (List Thk.ze)→Except (Nat × Nat) (List Thk.ze)
 | .ok g'=>.ok (g++g')
 | .error x=>.error x
def zdt (w:World) (rb:Nat) (ts:List Thk.Tok) (e:Ending) (w':World):Prop:=
 ∃ res,Thk.ZU 0 ts res∧Kp rb w.heap.size w w'∧match res with
  | .ok g=>g≠[]∧g.length≤20∧∃ a cp,e = .returned (.tuple #[.slice (some a) g.length cp,.nilIface])∧Zj w' (w.heap.size≤·) g (.slice (some a) g.length cp)
  | .error (er,p)=>e = .returned (.tuple #[.slice none 0 0,zS er p])
structure V8 (w:World) (rb tb tc:Nat) (ps:List (Thk.Tok × Value)) (n k:Nat) (g:List Thk.ze) (vs:List Value) (v:Value) (wr:World):Prop where
 lt:k<ps.length
 len:g.length≤20
 own:wr.ownsRow w.heap.size 90 2 v g.length (J0 g vs)
 rules:zW wr (fun b=>w.heap.size≤b∧some b≠v.ownBlock) g vs
 rd:Rd wr rb tb tc ps k 0
 kp:Kp rb w.heap.size w wr
 goes:∀ r,Thk.ZU g.length (zu ps k) r→Thk.ZU 0 (zu ps n) (zaj g r)
theorem V8.push {w:World} {rb tb tc:Nat} {ps:List (Thk.Tok × Value)} {n k:Nat} {g:List Thk.ze} {us:List Value} {v:Value} {wr:World} (h:V8 w rb tb tc ps n k g us v wr) (hrl:rb<w.heap.size)
  {r:Thk.ze} {x:Value} {k':Nat} {w1 w5:World} {v':Value} {O1 O2:Obj}
  (hK:Kp rb wr.heap.size wr w1) (hP:Zt w1 (wr.heap.size≤·) r.choice x) (hnm:r.name.length≤2000) (hR:Rd w1 rb tb tc ps k' 0)
  (ho:w5.ownsRow w.heap.size 90 2 v' (g.length+1) (J0 g us++[.string ⟨r.name.toArray⟩,x])) (hg:((w1.alloc O1).alloc O2).grownBy w5 v.ownBlock)
  (hat:v'.ownBlock=v.ownBlock∨v'.ownBlock=some (w1.heap.size+1+1)) :
  w5.ownsRow w.heap.size 90 2 v' (g++[r]).length (J0 (g++[r]) (us++[x]))∧zW w5 (fun b=>w.heap.size≤b∧some b≠v'.ownBlock) (g++[r]) (us++[x])∧Rd w5 rb tb tc ps k' 0∧Kp rb w.heap.size w w5:=by
 have hsz:=hK.size
 have hwr:=h.kp.size
 have hown1:w1.ownsRow w.heap.size 90 2 v g.length (J0 g us):=JT h.own h.rd.1 (by decide) hK
 have hbl:=zbF hg
 have hgs:=hg.size
 simp at hgs
 have hvb:∀ g,v.ownBlock=some g→g<wr.heap.size:=fun g hg=>(h.own.lt g hg).2
 have hA:∀ g,g<w1.heap.size→w.heap.size≤g→some g≠v.ownBlock→(w.heap.size≤g∧some g≠v'.ownBlock):=by
  intro g h1 h2 h3
  refine⟨h2,?_⟩
  rcases hat with e | e<;>rw[e]
  ·exact h3
  ·simp;omega
 refine⟨by rw[zio _ _ (zW.length h.rules)];simpa using ho,?_,?_,?_⟩
 ·refine zW.snoc ⟨?_,hnm⟩ ?_
  ·have p1:Zt w1 (fun g=>wr.heap.size≤g∧g<w1.heap.size) r.choice x:=hP.mono (fun g h1 h2=>⟨h2,h1⟩)
   have p2:Zt w5 (fun g=>wr.heap.size≤g∧g<w1.heap.size) r.choice x:=p1.kept (KX hown1 hbl (by decide) (fun g hg e=>by have:=hvb g e.symm;omega))
   exact p2.mono (fun g _ hg=>hA g hg.2 (by omega) (fun e=>by have:=hvb g e.symm;omega))
  ·have p0:=zW.kept (KY (A:=fun g=>w.heap.size≤g∧some g≠v.ownBlock) h.rd.1 hK (fun g hg=>by omega)) h.rules
   have p1:zW w1 (fun g=>(w.heap.size≤g∧some g≠v.ownBlock)∧g<w1.heap.size) g us:=zW.mono (fun g h1 h2=>⟨h2,h1⟩) p0
   have p2:zW w5 (fun g=>(w.heap.size≤g∧some g≠v.ownBlock)∧g<w1.heap.size) g us:=zW.kept (KX hown1 hbl (by decide) (fun g hg=>hg.1.2)) p1
   exact zW.mono (fun g _ hg=>hA g hg.2 hg.1.1 hg.1.2) p2
 ·exact hR.but hown1 hbl (by decide) (by decide) (by decide)
 ·exact ((((h.kp.trans (hK.mono hwr))).alloc (by omega) O1).alloc (by simp;omega) O2).grown hg (by simp;omega) (fun g hg'=>(h.own.lt g hg').1)
theorem Tryd.infoRule:(Tryd.prog.info? 90).map (fun i=>(i.zero,i.size,i.bytes))=some (some (.agg #[.string ⟨#[]⟩,.slice none 0 0]),2,40):=by kernel_rfl
theorem zfE {k:Thk.TK} (hk:Qm k):(k = .fin∧zt k=0)∨(k≠.fin∧(zt k == 0)=false):=by
 cases k with
 | fin=>left;exact⟨rfl,rfl⟩
 | sign c=>right;have:=KW hk;refine⟨by simp,beq_eq_false_iff_ne.2 ?_⟩;simp only[zt];omega
 | _=>right;simp[zt]
theorem zdy {m:Nat} {ts rest:List Thk.Tok} {r:Thk.ze} (h:Thk.ZV m ts (.ok r rest)):m≠20:=by cases h;assumption
theorem zf7 (w:World) (rb tb tc:Nat) (ps:List (Thk.Tok × Value)) (n:Nat) (h:Rd w rb tb tc ps n 0) (hg:QE ps) (hn:n<ps.length) :
  Calls Tryd.prog 18 #[.pointer (some ⟨rb,0,none⟩)] w fun e w'=>zdt w rb (zu ps n) e w':=by
 obtain⟨i0,hi,hz0,hz1,hz2⟩:=info_parts Tryd.infoRule
 have hrl:=h.lt
 have hl:=h.2.2.1
 have H:Hid (Rd w rb tb tc ps n 0):=h
 clear h
 go_enter Tryd.func18,Tryd.ntmps18
 go_wp2_with fail
 go_loopg [4] (ps.length - n) (fun m v wr=>∃ k g us,m=ps.length - k∧V8 w rb tb tc ps n k g us v wr)
 case atStart=>
  refine⟨n,[],[],rfl,hn,by simp,World.ownsRow_nil _ _ _ _,by simp[zW],H.out,Kp.refl _ _ _,?_⟩
  intro r hr;cases r<;>exact hr
 case round=>
  obtain⟨k,g,us,rfl,hS⟩:=hrel
  have hs:=ziq wr rb tb tc ps g.length k hS.rd hg hS.lt hS.len
  have hkl:=hS.lt
  have hgl:=hS.len
  have hwr:=hS.kp.size
  have hown:=hS.own
  obtain⟨va0,vc0,hv⟩:=zl hown
  subst hv
  have HS:Hid (V8 w rb tb tc ps n k g us (.slice va0 g.length vc0) wr):=hS
  clear hS
  go_wp2_with fail
  refine hs.mono ?_
  rintro e w1 ⟨res,hP,hK1,hE⟩
  have hsz1:=hK1.size
  have HP:Hid (Thk.ZV g.length (zu ps k) res):=hP
  have HK1:Hid (Kp rb wr.heap.size wr w1):=hK1
  clear hs hP hK1
  cases res with
  | err er p=>
   obtain⟨z,rfl,n',hR1⟩:=hE
   simp only[zS]
   clear hR1 hown
   go_wp2_with fail
   go_ret2
   exact⟨.error (er,p),HS.out.goes _ (.err HP.out),(HS.out.kp.trans (HK1.out.mono hwr)).alloc (by omega) _,rfl⟩
  | ok r rest=>
   obtain⟨k',sa,sl,sc,rfl,hlt,hk',rfl,hRS,hR1,hnm⟩:=hE
   have HNM:Hid (r.name.length≤2000):=hnm
   clear hnm
   have hg19:=zdy HP.out
   have HRS:Hid (Zt w1 (wr.heap.size≤·) r.choice (.slice sa sl sc)):=hRS
   have H1:Hid (Rd w1 rb tb tc ps k' 0):=hR1
   have hown1:w1.ownsRow w.heap.size 90 2 (.slice va0 g.length vc0) g.length (J0 g us):=JT hown HS.out.rd.1 (by decide) HK1.out
   clear hRS hR1 hown
   go_wp2_with (first | (at_builtin;refine wpList_append_own_at _ rfl _ _ 38 rfl (w.heap.size) 90 i0 _ 2 40 Tryd.underlying38 hi hz0 hz1 hz2 rfl (by decide) _ _ _ rfl ((hown1.alloc _).alloc _) ⟨w1.heap.size+1,0,none⟩ 1 1 [.string ⟨r.name.toArray⟩,.slice sa sl sc] rfl rfl ?c1 ?c2 ?c3 ?c4 ?c5 ?_))
   case c1=>rw[← World.size_alloc w1 (.cells #[.string ⟨r.name.toArray⟩,.slice sa sl sc] 90)];exact KC _ _ _ _
   case c2=>intro u hu;simp at hu;rcases hu with rfl | rfl<;>rfl
   case c3=>unfold maxLen;omega
   case c4=>omega
   case c5=>simp;omega
   intro v' w5 hown' hgrow hnn hat
   obtain⟨p1,p2,p3,p4⟩:=HS.out.push hrl HK1.out HRS.out HNM.out H1.out hown' hgrow hat
   have hvf:∃ a c,v' = .slice (some a) (g.length+1) c:=by
    rcases hown'.2 with ⟨h,_⟩ | ⟨g',cap,cur,h,_⟩
    ·exact absurd h hnn
    ·exact⟨_,_,h⟩
   obtain⟨va,vc,rfl⟩:=hvf
   have P1:Hid (w5.ownsRow w.heap.size 90 2 (.slice (some va) (g.length+1) vc) (g++[r]).length (J0 (g++[r]) (us++[.slice sa sl sc]))):=p1
   have P2:Hid (zW w5 (fun b=>w.heap.size≤b∧some b≠(Value.slice (some va) (g.length+1) vc).ownBlock) (g++[r]) (us++[.slice sa sl sc])):=p2
   have P3:Hid (Rd w5 rb tb tc ps k' 0):=p3
   have P4:Hid (Kp rb w.heap.size w w5):=p4
   clear hown' hgrow hat hown1 p1 p2 p3 p4 hnn
   rcases zfE (hg k' hk').1 with ⟨hks,hki⟩ | ⟨hks,hki⟩
   ·have hkd:=JA w5 rb tb tc ps k' 0 P3.out hk' 0 hki
    have HKS:Hid (ps[k'].1.kind = .fin):=hks
    clear hks hki
    go_wp2_with (first | (go_at_call 32;refine hkd.mono ?_;rintro e w6 ⟨rfl,q,rfl⟩))
    go_ret2
    have hp:=HS.out.goes _ (.last HP.out (by rw[Z0 hk'];exact HKS.out))
    refine⟨.ok (g++[r]),hp,P4.out.drewN q,by simp,by simp;omega,va,vc,by simp,⟨us++[.slice sa sl sc],⟨?_,?_⟩,?_⟩⟩
    ·have h1:w5.ownsRow 0 90 2 (.slice (some va) (g++[r]).length vc) (g++[r]).length (J0 (g++[r]) (us++[.slice sa sl sc])):=by
      have:=Zn P1.out (Nat.zero_le _);simpa using this
     exact h1
    ·intro b hb;exact (P1.out.lt b (by simpa using hb)).1
    ·have h1:zW w5 (w.heap.size≤·) (g++[r]) (us++[.slice sa sl sc]):=zW.mono (fun g _ hg=>hg.1) P2.out
     exact zW.kept (w:=w5) (w':=w5.drewN q) ⟨fun _ _ h=>h,fun _ _ _=>rfl⟩ h1
   ·have hkd:=JA w5 rb tb tc ps k' 0 P3.out hk' _ rfl
    have HKS:Hid (ps[k'].1.kind≠.fin):=hks
    clear hks
    generalize zt ps[k'].1.kind=K at *
    go_wp2_with (first | (go_at_call 32;refine hkd.mono ?_;rintro e w6 ⟨rfl,q,rfl⟩))
    have hN:V8 w rb tb tc ps n k' (g++[r]) (us++[.slice sa sl sc]) (.slice (some va) (g.length+1) vc) (w5.drewN q):=by
     refine⟨hk',by simp;omega,P1.out,zW.kept (w:=w5) (w':=w5.drewN q) ⟨fun _ _ h=>h,fun _ _ _=>rfl⟩ P2.out,P3.out.drewN q,P4.out.drewN q,?_⟩
     intro x hx
     have hm:Thk.ZV g.length (zu ps k) (.ok r (zu ps k')):=HP.out
     have hf:(Thk.hd (zu ps k')).kind≠.fin:=by rw[Z0 hk'];exact HKS.out
     simp only[List.length_append,List.length_cons,List.length_nil] at hx
     cases x with
     | ok g'=>exact (by simpa [zaj] using HS.out.goes _ (.more hm hf hx))
     | error y=>exact (by simpa [zaj] using HS.out.goes _ (.later hm hf hx))
    go_roundg (ps.length - k')
    case measure=>omega
    case rel=>exact⟨k',_,_,rfl,hN⟩
theorem zdF (N:Nat):∀ (pos:Nat) (l:List UInt8),l.length≤N→(TL pos l).length≤l.length+1∧TL pos l≠[]∧∀ i (h:i<(TL pos l).length),Qm (TL pos l)[i].kind∧((TL pos l)[i].kind.last=false→i+1<(TL pos l).length):=by
 induction N with
 | zero=>
  intro pos l hl
  have:l=[]:=List.length_eq_zero_iff.1 (by omega)
  subst this
  refine⟨by rw[show TL pos []=[⟨.fin,pos,0,[],[]⟩] from rfl];simp,by rw[K9];simp,?_⟩
  intro i h
  have e:TL pos []=[⟨.fin,pos,0,[],[]⟩]:=rfl
  simp only[e] at h ⊢
  simp at h
  subst h
  simp[Qm,Thk.TK.last]
 | succ N ih=>
  intro pos l hl
  rw[K9]
  have hok:Qm (zG pos l).kind:=qa _
  cases hk:(zG pos l).kind.last with
  | true=>
   simp only[if_true]
   refine⟨by simp,by simp,?_⟩
   intro i h
   simp at h
   subst h
   simp only[List.getElem_cons_zero]
   exact⟨hok,fun hx=>by rw[hk] at hx;cases hx⟩
  | false=>
   have hs:=Kl (l.drop (Thk.blk false l)) hk
   have hb:=Kb false l
   rw[List.length_drop] at hs
   have hd:(l.drop (Thk.blk false l+(zG pos l).size)).length=l.length - (Thk.blk false l+(zG pos l).size):=List.length_drop
   have e:(zG pos l).size=(Thk.zM (l.drop (Thk.blk false l))).size:=rfl
   simp only[Bool.false_eq_true,if_false]
   obtain⟨h1,h2,h3⟩:=ih ((zG pos l).place+(zG pos l).size) (l.drop (Thk.blk false l+(zG pos l).size)) (by omega)
   generalize TL ((zG pos l).place+(zG pos l).size) (l.drop (Thk.blk false l+(zG pos l).size))=L at *
   refine⟨by simp;omega,by simp,?_⟩
   intro i h
   cases i with
   | zero=>
    simp only[List.getElem_cons_zero]
    refine⟨hok,fun _=>?_⟩
    cases L with
    | nil=>exact absurd rfl h2
    | cons _ _=>simp
   | succ i=>
    simp only[List.getElem_cons_succ]
    have:=h3 i (by simpa using h)
    exact⟨this.1,fun hx=>by have:=this.2 hx;simp;omega⟩
theorem zei (m l:List UInt8):(Thk.Qc m l).1.length≤l.length:=by have:=zeh m l;omega
theorem zjc (l:List UInt8):(Thk.zM l).text.length≤l.length:=by
 cases l with
 | nil=>simp[Thk.zM]
 | cons c t=>
  simp only[Thk.zM]
  split
  ·unfold Thk.Ql;split
   ·simp[Thk.zB]
   ·simp only[List.length_take];omega
  ·split
   ·simp
   ·split
    ·unfold Thk.Qv;split
     ·have:=zei [39] t;simp only[List.length_cons];omega
     ·simp[Thk.zB]
    ·split
     ·unfold Thk.QB;split<;>simp[Thk.zB]
     ·split<;>simp[Thk.zB]
theorem zde:∀ (f pos:Nat) (l:List UInt8),∀ t ∈ Thk.QC f pos l,t.text.length≤l.length
 | 0,_,_,t,h=>by simp[Thk.QC] at h
 | f+1,pos,l,t,h=>by
  rw[qe] at h
  have hb:=Kb false l
  rcases List.mem_cons.1 h with rfl | h
  ·have:=zjc (l.drop (Thk.blk false l))
   rw[List.length_drop] at this
   show (Thk.zM (l.drop (Thk.blk false l))).text.length≤_
   omega
  ·split at h
   ·cases h
   ·have:=zde f _ _ t h
    rw[List.length_drop] at this
    omega
theorem zje (l:List UInt8):∀ t ∈ Thk.Qn l,t.text.length≤l.length:=zde _ _ _
theorem zf4 {l:List UInt8} {ps:List (Thk.Tok × Value)} (h:ps.map (·.1)=Thk.Qn l):QE ps∧0<ps.length∧ps.length≤l.length+1:=by
 obtain⟨h1,h2,h3⟩:=zdF l.length 0 l (Nat.le_refl _)
 rw[← YZ,← h] at h1 h2 h3
 simp only[List.length_map] at h1 h3
 refine⟨?_,?_,h1⟩
 ·intro i hi
  have:=h3 i hi
  simpa using this
 ·cases ps with
  | nil=>simp at h2
  | cons _ _=>simp
inductive Zs (l:List UInt8):Except (Nat × Nat) (List Thk.ze)→Prop
 | long : 2000<l.length→Zs l (.error (1,0))
 | read {res}:l.length≤2000→Thk.ZU 0 (Thk.Qn l) res→Zs l res
def zdB (l:List UInt8) (w:World) (e:Ending) (w':World):Prop:=
 ∃ res,Zs l res∧Below w.heap.size w w'∧match res with
  | .ok g=>g≠[]∧g.length≤20∧∃ a cp,e = .returned (.tuple #[.slice (some a) g.length cp,.nilIface])∧Zj w' (w.heap.size≤·) g (.slice (some a) g.length cp)
  | .error (er,p)=>e = .returned (.tuple #[.slice none 0 0,zS er p])
theorem Kp.below {rb B:Nat} {w w':World} (h:Kp rb B w w') (hr:B≤rb):Below B w w':=⟨h.os,h.tape,h.output,h.size,fun k hk=>h.block k hk (by omega)⟩
theorem zhD (s:ByteArray) (w:World) (hs:s.size≤maxLen) :
  Calls Tryd.prog 14 #[.string s] w fun e w'=>zdB s.data.toList w e w':=by
 unfold maxLen at hs
 have hll:s.data.toList.length=s.size:=rfl
 by_cases hl : 2000<s.size
 ·have hl':(2000:Int)<s.size:=by omega
  go_enter Tryd.func14,Tryd.ntmps14
  go_wp2_with fail
  go_ret2
  exact⟨.error (1,0),.long (by rw[hll];exact hl),Below.refl _ _,rfl⟩
 ·have hl':¬ (2000:Int)<s.size:=by omega
  have hct:=zex s w (by omega)
  go_enter Tryd.func14,Tryd.ntmps14
  go_wp2_with fail
  refine hct.mono ?_
  rintro e w1 ⟨a,c,ps,rfl,hb,hps,htk⟩
  obtain⟨hg,hpos,hlen⟩:=zf4 hps
  have hpl:ps.length=(Thk.Qn s.data.toList).length:=by rw[← hps];simp
  obtain⟨tb,rfl⟩:∃ tb,a=⟨tb,0,none⟩:=by
   rcases htk.1.2 with ⟨h,_⟩ | ⟨g',cap,cur,h,_⟩
   ·cases h
   ·simp only[Value.slice.injEq,Option.some.injEq] at h;exact⟨g',h.1⟩
  rw[← hpl] at htk ⊢
  obtain⟨O,hO⟩:∃ O:Obj,O = .cells #[.slice (some ⟨tb,0,none⟩) ps.length c,.int .i64 0,.int .i64 0] 61:=⟨_,rfl⟩
  have hRd:Rd (w1.alloc O) w1.heap.size tb c ps 0 0:=by
   refine⟨by rw[hO];exact zk _ _,?_,by omega,?_⟩
   rotate_left
   ·intro p hp
    have h1:p.1 ∈ Thk.Qn s.data.toList:=by rw[← hps];exact List.mem_map_of_mem hp
    have:=zje s.data.toList p.1 h1
    omega
   have:=htk.below (zc w1 O)
   exact⟨Zn this.1 (Nat.zero_le _),fun p hp=>Zn (this.2 p hp) (Nat.zero_le _)⟩
  have hgr:=zf7 (w1.alloc O) w1.heap.size tb c ps 0 hRd hg hpos
  have hts:zu ps 0=Thk.Qn s.data.toList:=by unfold zu;rw[hps];rfl
  rw[hts] at hgr
  have hsz:=hb.size
  have HB:Hid (Below w.heap.size w w1):=hb
  have HL:Hid (s.data.toList.length≤2000):=by show _≤_;omega
  subst hO
  clear hct hRd hps htk hts hb hpl
  go_wp2_with fail
  refine hgr.mono ?_
  rintro e w2 ⟨res,hP,hK,hE⟩
  have hB2:Below w.heap.size w w2:=(HB.out.trans ((zc _ _).mono hsz)).trans ((Kp.below (hK.mono (by simp)) (by exact Nat.le_refl _):Below w1.heap.size _ w2).mono hsz)
  have HP:Hid (Thk.ZU 0 (Thk.Qn s.data.toList) res):=hP
  have HB2:Hid (Below w.heap.size w w2):=hB2
  clear hgr hP hB2 hK
  cases res with
  | error x=>
   obtain⟨er,p⟩:=x
   simp only[zS] at hE
   subst hE
   go_wp2_with fail
   go_ret2
   exact⟨.error (er,p),.read HL.out HP.out,HB2.out,rfl⟩
  | ok g=>
   obtain⟨h1,h2,a',cp,rfl,hRG⟩:=hE
   obtain⟨vs,hrow,hrules⟩:=hRG
   have hRG':Zj w2 (w.heap.size≤·) g (.slice (some a') g.length cp):=⟨vs,hrow.mono (fun b _ hb=>by simp at hb;omega),zW.mono (fun b _ hb=>by simp at hb;omega) hrules⟩
   have HR:Hid (Zj w2 (w.heap.size≤·) g (.slice (some a') g.length cp)):=hRG'
   clear hrow hrules hRG'
   go_wp2_with fail
   go_ret2
   exact⟨.ok g,.read HL.out HP.out,HB2.out,h1,h2,a',cp,rfl,HR.out⟩
end Go.Proofs.YtiganlkabilblaaDoor
namespace Thk
def Term.ahead:Term→UInt8 | .mk a _ _=>a
def Term.piece:Term→zC | .mk _ p _=>p
def Term.behind:Term→UInt8 | .mk _ _ b=>b
mutual
def Ze (E:z7→Bool):zC→Bool
  | .name b=>E b
  | .group c=>Zl E c
  | _=>false
def Zu (E:z7→Bool):Term→Bool
  | .mk a p b=>(a != 0 || b == 63 || b == 42) || Ze E p
def ZH (E:z7→Bool):List Term→Bool
  | []=>true
  | t::s=>Zu E t && ZH E s
def Zl (E:z7→Bool):List (List Term)→Bool
  | []=>false
  | s::c=>ZH E s || Zl E c
 end
mutual
def Zi (H:Term→Bool):zC→Bool
  | .group c=>zx H c
  | _=>false
def ZG (H:Term→Bool):Term→Bool
  | .mk a p b=>H (.mk a p b) || Zi H p
def Zc (H:Term→Bool):List Term→Bool
  | []=>false
  | t::s=>ZG H t || Zc H s
def zx (H:Term→Bool):List (List Term)→Bool
  | []=>false
  | s::c=>Zc H s || zx H c
 end
mutual
def Zy (E:z7→Bool):zC→List z7
  | .name b=>[b]
  | .group c=>ZC E c
  | _=>[]
def JR (E:z7→Bool):Term→List z7
  | .mk _ p _=>Zy E p
def Q2 (E:z7→Bool):List Term→List z7
  | []=>[]
  | t::s=>JR E t++(if Zu E t then Q2 E s else [])
def ZC (E:z7→Bool):List (List Term)→List z7
  | []=>[]
  | s::c=>Q2 E s++ZC E c
 end
end Thk
namespace Go.Proofs.YtiganlkabilblaaDoor
open Go.RowKit Go.WideMaps Go.Maps
theorem za6:Keyed Tryd.prog 9:=string_keyed Tryd.underlying9
theorem zdn (w:World):(zeroValue 3).run Tryd.prog w = .ok (.int .i64 0) w:=by kernel_rfl
def Up (names:List Thk.z7) (b:Thk.z7):Nat:=if names.contains b then names.idxOf b else 0
theorem YU {names:List Thk.z7} (b:Thk.z7) (h : 0<names.length):Up names b<names.length:=by
 unfold Up;split
 ·rename_i hc;exact List.idxOf_lt_length_iff.2 (by simpa using hc)
 ·exact h
def Zd (w:World) (mb:Nat) (names:List Thk.z7):Prop:=
 ∃ D:DataW Unit,w.ownsMap Tryd.prog 9 (plainElem Tryd.prog 3) mb names.length D ∧
  ∀ b,D.atKey (.string b) (.lit (.int .i64 0)) = .lit (.int .i64 (Up names b))∧Maps.has D (.string b)=names.contains b
theorem za7 (b:Thk.z7) (hb:b.length≤2000):keyOf Tryd.prog 9 (.string ⟨b.toArray⟩)=some (.string b):=by
 have:=keyOf_string_mk (s:=⟨b.toArray⟩) Tryd.underlying9 (by show b.toArray.size≤maxLen;unfold maxLen;simp;omega)
 simpa using this
theorem Zd.look {w:World} {mb:Nat} {names:List Thk.z7} (h:Zd w mb names) (b:Thk.z7) (hb:b.length≤2000) :
  (Instr.lookup 39 (.map (some mb)) (.string ⟨b.toArray⟩) false).run Tryd.prog w = .ok (.int .i64 (Up names b)) w:=by
 obtain⟨D,ho,hD⟩:=h
 obtain⟨c,hrun,hat,_⟩:=ho.lookup_int za6 Tryd.underlying39 Tryd.underlying3 (zdn _) (za7 b hb)
 rw[(hD b).1] at hat
 simp at hat
 rw[hrun,← hat]
theorem Zd.lookOk {w:World} {mb:Nat} {names:List Thk.z7} (h:Zd w mb names) (b:Thk.z7) (hb:b.length≤2000) :
  (Instr.lookup 39 (.map (some mb)) (.string ⟨b.toArray⟩) true).run Tryd.prog w = .ok (.tuple #[.int .i64 (Up names b),.bool (names.contains b)]) w:=by
 obtain⟨D,ho,hD⟩:=h
 obtain⟨v,ps,hrun,hv⟩:=ho.look_ok za6 Tryd.underlying39 (zdn _) (plainElem_int Tryd.underlying3 (by decide)) (za7 b hb)
 rw[(hD b).1] at hv
 obtain⟨a,rfl,ha,_⟩:=plainElem_int_inv Tryd.underlying3 hv
 simp at ha
 rw[hrun,(hD b).2,← ha.1]
theorem Zd.same {w w':World} {mb:Nat} {names:List Thk.z7} (h:Zd w mb names) (hb:w'.heap[mb]? = w.heap[mb]?):Zd w' mb names:=by
 obtain⟨D,⟨es,clock,h1,h2⟩,hD⟩:=h
 exact⟨D,⟨es,clock,by rw[hb];exact h1,h2⟩,hD⟩
theorem Zd.lt {w:World} {mb:Nat} {names:List Thk.z7} (h:Zd w mb names):mb<w.heap.size:=by
 obtain⟨D,ho,_⟩:=h;exact ho.lt
theorem Zd.below {w w':World} {mb:Nat} {names:List Thk.z7} (h:Zd w mb names) (hb:Below w.heap.size w w'):Zd w' mb names:=h.same (hb.block _ h.lt)
theorem zbJ (b:Thk.z7):WideAt.IsKeyLit (.string b):=by
 simp[WideAt.IsKeyLit]
theorem Zd.put {w:World} {mb:Nat} {names:List Thk.z7} {b:Thk.z7} {D:DataW Unit} {w':World} (hD:∀ b,D.atKey (.string b) (.lit (.int .i64 0)) = .lit (.int .i64 (Up names b))∧Maps.has D (.string b)=names.contains b) (hm:IsMap D)
  (hb:names.contains b=false) (ho:w'.ownsMap Tryd.prog 9 (plainElem Tryd.prog 3) mb (names.length+1) (D.put (.string b) (.lit (.int .i64 names.length)))) (hl:b.length≤2000):Zd w' mb (names++[b]):=by
 refine⟨_,by simpa using ho,?_⟩
 intro c
 by_cases hc:c=b
 ·subst hc
  have hn:c ∉ names:=by simpa using hb
  rw[atKey_put_same hm (zbJ c),has_put_same hm (zbJ c)]
  constructor
  ·congr 3
   unfold Up
   rw[if_pos (by simp)]
   rw[List.idxOf_append,if_neg hn]
   simp
  ·simp
 ·have hne:(Lit.string c)≠(Lit.string b):=by simpa using hc
  rw[atKey_put_other hne,has_put_other hne,(hD c).1,(hD c).2]
  have hcc:(names++[b]).contains c=names.contains c:=by
   rw[Bool.eq_iff_iff];simp[hc]
  constructor
  ·congr 3
   unfold Up
   rw[hcc]
   split
   ·rename_i h1
    rw[List.idxOf_append,if_pos (by simpa using h1)]
   ·rfl
  ·exact hcc.symm
mutual
def Y6:Thk.zC→Nat
  | .group c=>Qt c+1
  | _=>0
def Jx:Thk.Term→Nat
  | .mk _ p _=>Y6 p
def YO:List Thk.Term→Nat
  | []=>0
  | t::s=>max (Jx t) (YO s)
def Qt:List (List Thk.Term)→Nat
  | []=>0
  | s::c=>max (YO s) (Qt c)
 end
def zH (E:List Bool):Obj:=.cells (E.map Value.bool).toArray 4 (0,0)
structure zQ (w:World) (mb eb:Nat) (names:List Thk.z7) (E:List Bool):Prop where
 map:Zd w mb names
 emp:w.heap[eb]? = some (zH E)
 len:E.length=names.length
 pos : 0<names.length
 le:names.length≤20
def zI (mb eb n:Nat):Value:=.agg #[.map (some mb),.slice (some ⟨eb,0,none⟩) n n]
theorem zd {w:World} {b:Nat} {o:Obj} (h:w.heap[b]? = some o):b<w.heap.size:=(Array.getElem?_eq_some_iff.1 h).1
theorem zQ.below {w w':World} {mb eb:Nat} {names:List Thk.z7} {E:List Bool} (h:zQ w mb eb names E) (hb:Below w.heap.size w w'):zQ w' mb eb names E:=
 ⟨h.map.below hb,by rw[hb.block _ (zd h.emp)];exact h.emp,h.len,h.pos,h.le⟩
def Eb (names:List Thk.z7) (E:List Bool) (b:Thk.z7):Bool:=E.getD (Up names b) false
theorem zQ.cell {w:World} {mb eb:Nat} {names:List Thk.z7} {E:List Bool} (h:zQ w mb eb names E) (i:Nat) (hi:i<names.length):w.cell? ⟨eb,i,none⟩=some (.bool (E.getD i false)):=by
 rw[z8 h.emp]
 have:i<E.length:=by rw[h.len];exact hi
 simp[this]
theorem ZF {A:Nat→Prop} {w w':World} (hb:Below w.heap.size w w'):Sm A w w':=⟨fun _ _ h=>Zv h hb,fun g hg _=>hb.block g hg⟩
def Ko (k:Nat):Prop:=∀ (w:World) (mb eb:Nat) (names:List Thk.z7) (E:List Bool) (A:Nat→Prop) (c:Thk.Z5) (u:Value),zQ w mb eb names E→Zt w A c u→Qt c≤k →
 Calls Tryd.prog 35 #[zI mb eb names.length,u] w fun e w'=>e = .returned (.bool (Thk.Zl (Eb names E) c))∧Below w.heap.size w w'
theorem Ui (x:Value) (w:World):(Instr.typeAssert (.iface 102 x) 98 102 true).run Tryd.prog w = .ok (.tuple #[x,.bool true]) w:=by kernel_rfl
theorem zaZ (x:Value) (w:World):(Instr.typeAssert (.iface 102 x) 98 135 true).run Tryd.prog w = .ok (.tuple #[.agg #[.slice none 0 0],.bool false]) w:=by kernel_rfl
theorem Uh (x:Value) (w:World):(Instr.typeAssert (.iface 156 x) 98 102 true).run Tryd.prog w = .ok (.tuple #[.agg #[.string ⟨#[]⟩],.bool false]) w:=by kernel_rfl
theorem Ug (x:Value) (w:World):(Instr.typeAssert (.iface 156 x) 98 135 true).run Tryd.prog w = .ok (.tuple #[.agg #[.slice none 0 0],.bool false]) w:=by kernel_rfl
theorem Ue (x:Value) (w:World):(Instr.typeAssert (.iface 158 x) 98 102 true).run Tryd.prog w = .ok (.tuple #[.agg #[.string ⟨#[]⟩],.bool false]) w:=by kernel_rfl
theorem Ud (x:Value) (w:World):(Instr.typeAssert (.iface 158 x) 98 135 true).run Tryd.prog w = .ok (.tuple #[.agg #[.slice none 0 0],.bool false]) w:=by kernel_rfl
theorem Uc (x:Value) (w:World):(Instr.typeAssert (.iface 160 x) 98 102 true).run Tryd.prog w = .ok (.tuple #[.agg #[.string ⟨#[]⟩],.bool false]) w:=by kernel_rfl
theorem Vn (x:Value) (w:World):(Instr.typeAssert (.iface 160 x) 98 135 true).run Tryd.prog w = .ok (.tuple #[.agg #[.slice none 0 0],.bool false]) w:=by kernel_rfl
theorem Uf (x:Value) (w:World):(Instr.typeAssert (.iface 135 x) 98 102 true).run Tryd.prog w = .ok (.tuple #[.agg #[.string ⟨#[]⟩],.bool false]) w:=by kernel_rfl
theorem Vo (x:Value) (w:World):(Instr.typeAssert (.iface 135 x) 98 135 true).run Tryd.prog w = .ok (.tuple #[x,.bool true]) w:=by kernel_rfl
theorem zbr (k:Nat) (hC:∀ k',k'<k→Ko k') (w:World) (mb eb:Nat) (names:List Thk.z7) (E:List Bool) (A:Nat→Prop) (p:Thk.zC) (v:Value) (hF:zQ w mb eb names E) (hp:zp w A p v) (hk:Y6 p≤k) :
  Calls Tryd.prog 38 #[zI mb eb names.length,v] w fun e w'=>e = .returned (.bool (Thk.Ze (Eb names E) p))∧Below w.heap.size w w':=by
 have hle:=hF.le
 have hpos:=hF.pos
 cases p with
 | name b=>
  simp only[zp] at hp
  obtain⟨rfl,hbl⟩:=hp
  have e1:Thk.Ze (Eb names E) (.name b)=E.getD (Up names b) false:=rfl
  have hix:=YU b hpos
  rw[e1]
  have hB:∀ O1 O2,Below w.heap.size w ((w.alloc O1).alloc O2):=fun O1 O2=>(zc _ _).alloc (by simp) _
  have hlk:=fun O1 O2=>(hF.map.below (hB O1 O2)).look b hbl
  have hce:=fun O1 O2=>(hF.below (hB O1 O2)).cell (Up names b) hix
  simp only[zI]
  clear e1 hB
  generalize E.getD (Up names b) false=r at *
  generalize Up names b=i at *
  clear hF hC hk
  have a1:=Ui
  go_enter Tryd.func38,Tryd.ntmps38
  go_wp2_with fail
  go_ret
  exact⟨rfl,(zc _ _).alloc (by simp) _⟩
 | lit b=>
  simp only[zp] at hp
  subst hp
  have a1:=Uh
  have a2:=Ug
  simp only[zI]
  clear hF hC hk
  go_enter Tryd.func38,Tryd.ntmps38
  go_wp2_with fail
  go_ret
  exact⟨rfl,zc _ _⟩
 | cls l=>
  simp only[zp] at hp
  obtain⟨u,rfl,_⟩:=hp
  have a1:=Ue
  have a2:=Ud
  simp only[zI]
  clear hF hC hk
  go_enter Tryd.func38,Tryd.ntmps38
  go_wp2_with fail
  go_ret
  exact⟨rfl,zc _ _⟩
 | any=>
  simp only[zp] at hp
  subst hp
  have a1:=Uc
  have a2:=Vn
  simp only[zI]
  clear hF hC hk
  go_enter Tryd.func38,Tryd.ntmps38
  go_wp2_with fail
  go_ret
  exact⟨rfl,zc _ _⟩
 | group c=>
  simp only[zp] at hp
  obtain⟨u,us,rfl,hrow,hseqs⟩:=hp
  obtain⟨ua,uc,rfl⟩:=zl hrow.1
  have hdep:Qt c<k:=by simp only[Y6] at hk;omega
  have e1:Thk.Ze (Eb names E) (.group c)=Thk.Zl (Eb names E) c:=rfl
  rw[e1]
  have hB:∀ O1 O2,Below w.heap.size w ((w.alloc O1).alloc O2):=fun O1 O2=>(zc _ _).alloc (by simp) _
  have hch:=fun O1 O2=>hC _ hdep ((w.alloc O1).alloc O2) mb eb names E A c (.slice ua c.length uc) (hF.below (hB O1 O2)) (Zt.kept (ZF (hB O1 O2)) ⟨us,hrow,hseqs⟩) (Nat.le_refl _)
  simp only[zI] at hch ⊢
  generalize Thk.Zl (Eb names E) c=r at *
  have a1:=Uf
  have a2:=Vo
  clear hF hC hk hB hdep hrow hseqs e1
  go_enter Tryd.func38,Tryd.ntmps38
  go_wp2_with fail
  refine (hch _ _).mono ?_
  rintro e w1 ⟨rfl,hb⟩
  clear hch
  go_wp2_with fail
  go_ret
  exact⟨rfl,((zc _ _).alloc (by simp) _).trans (hb.mono (by simp;omega))⟩
def QN (t:Thk.Term) (v:Value):Value:=.agg #[.int .u8 t.ahead.toNat,v,.int .u8 t.behind.toNat]
theorem zbt (k:Nat) (hC:∀ k',k'<k→Ko k') (w:World) (mb eb:Nat) (names:List Thk.z7) (E:List Bool) (A:Nat→Prop) (t:Thk.Term) (v:Value) (hF:zQ w mb eb names E) (hp:Zk w A t v) (hk:Jx t≤k) :
  Calls Tryd.prog 57 #[zI mb eb names.length,QN t v] w fun e w'=>e = .returned (.bool (Thk.Zu (Eb names E) t))∧Below w.heap.size w w':=by
 obtain⟨a,p,b⟩:=t
 simp only[Zk] at hp
 simp only[Jx] at hk
 obtain⟨vt,vx,rfl⟩:=zp.oneCell hp
 have e1:Thk.Zu (Eb names E) (.mk a p b)=((a != 0 || b == 63 || b == 42) || Thk.Ze (Eb names E) p):=by simp only[Thk.Zu]
 rw[e1]
 have hB:∀ O1 O2,Below w.heap.size w ((w.alloc O1).alloc O2):=fun O1 O2=>(zc _ _).alloc (by simp) _
 have hpc:=fun O1 O2=>zbr k hC ((w.alloc O1).alloc O2) mb eb names E A p (.iface vt vx) (hF.below (hB O1 O2)) (zp.kept (ZF (hB O1 O2)) p _ hp) hk
 generalize Thk.Ze (Eb names E) p=r at *
 simp only[zI,QN,Thk.Term.ahead,Thk.Term.behind] at hpc ⊢
 clear hF hC hk hB hp e1
 by_cases h1:a=0
 ·subst h1
  by_cases h2:b=63
  ·subst h2
   go_enter Tryd.func57,Tryd.ntmps57
   go_wp2_with fail
   go_ret
   exact⟨rfl,(zc _ _).alloc (by simp) _⟩
  ·have t2:((b.toNat:Int) == 63)=false:=Q3 h2 63 rfl
   by_cases h3:b=42
   ·subst h3
    go_enter Tryd.func57,Tryd.ntmps57
    go_wp2_with fail
    go_ret
    exact⟨rfl,(zc _ _).alloc (by simp) _⟩
   ·have t3:((b.toNat:Int) == 42)=false:=Q3 h3 42 rfl
    rw[show (((0:UInt8) != 0 || b == 63 || b == 42) || r)=r from by simp[h2,h3]]
    clear h2 h3
    go_enter Tryd.func57,Tryd.ntmps57
    go_wp2_with fail
    refine (hpc _ _).mono ?_
    rintro e w1 ⟨rfl,hb⟩
    clear hpc
    go_wp2_with fail
    go_ret
    exact⟨rfl,((zc _ _).alloc (by simp) _).trans (hb.mono (by simp;omega))⟩
 ·have t1:((a.toNat:Int) != 0)=true:=by rw[bne_iff_ne];intro e;apply h1;apply UInt8.toNat_inj.1;rw[show (0:UInt8).toNat=0 from rfl];omega
  rw[show ((a != 0 || b == 63 || b == 42) || r)=true from by simp[h1]]
  clear h1
  go_enter Tryd.func57,Tryd.ntmps57
  go_wp2_with fail
  go_ret
  exact⟨rfl,(zc _ _).alloc (by simp) _⟩
theorem Jk {w:World} {base:Nat} {e:TypeId} {sz:Nat} {a:Option Addr} {n c:Nat} {xs:List Value} (h:w.ownsRow base e sz (.slice a n c) n xs) (hn : 0<n):∃ g,a=some ⟨g,0,none⟩∧(∀ i,i<n * sz→w.cell? ⟨g,i,none⟩=xs[i]?)∧g<w.heap.size:=by
 rcases h.2 with ⟨h1,h2⟩ | ⟨g,cap,cur,hv,_,hh,_⟩
 ·omega
 ·simp only[Value.slice.injEq] at hv
  obtain⟨rfl,_,rfl⟩:=hv
  exact⟨g,rfl,fun i hi=>h.cellAt i hi,zd hh⟩
theorem V1:∀ (s:List Thk.Term) (vs:List Value) (h:s.length=vs.length) (j:Nat) (hj:j<s.length),
  (QM s vs)[j * 3]? = some (.int .u8 s[j].ahead.toNat) ∧ (QM s vs)[j * 3 + 1]? = some (vs[j]'(by omega)) ∧ (QM s vs)[j * 3 + 2]? = some (.int .u8 s[j].behind.toNat)
 | [],_,_,_,hj=>by simp at hj
 | _::_,[],h,_,_=>by simp at h
 | .mk a p b::s,v::vs,h,0,_=>by simp[QM,Thk.Term.ahead,Thk.Term.behind]
 | .mk a p b::s,v::vs,h,j+1,hj=>by
  have:=V1 s vs (by simpa using h) j (by simpa using hj)
  simp only[QM,List.getElem_cons_succ]
  rw[show (j+1) * 3=j * 3+1+1+1 from by omega]
  simpa using this
theorem zD.get {w:World} {A:Nat→Prop}:∀ {s:List Thk.Term} {vs:List Value} (h:zD w A s vs) (j:Nat) (hj:j<s.length) (hv:j<vs.length),Zk w A s[j] vs[j]
 | [],_,_,_,hj,_=>by simp at hj
 | t::s,vs,h,j,hj,hv=>by
  simp only[zD] at h
  obtain⟨v,vs',rfl,h1,h2⟩:=h
  cases j with
  | zero=>exact h1
  | succ j=>exact zD.get h2 j (by simpa using hj) (by simpa using hv)
theorem zA.get {w:World} {A:Nat→Prop}:∀ {c:List (List Thk.Term)} {us:List Value} (h:zA w A c us) (j:Nat) (hj:j<c.length) (hv:j<us.length),QX w A c[j] us[j]
 | [],_,_,_,hj,_=>by simp at hj
 | t::s,vs,h,j,hj,hv=>by
  simp only[zA] at h
  obtain⟨v,vs',rfl,h1,h2⟩:=h
  cases j with
  | zero=>exact h1
  | succ j=>exact zA.get h2 j (by simpa using hj) (by simpa using hv)
theorem zeD (E:Thk.z7→Bool) (s:List Thk.Term) (j:Nat) (hj:j<s.length):Thk.ZH E (s.drop j)=(Thk.Zu E s[j] && Thk.ZH E (s.drop (j+1))):=by
 rw[List.drop_eq_getElem_cons hj];simp only[Thk.ZH]
theorem zey (E:Thk.z7→Bool) (c:List (List Thk.Term)) (j:Nat) (hj:j<c.length):Thk.Zl E (c.drop j)=(Thk.ZH E c[j] || Thk.Zl E (c.drop (j+1))):=by
 rw[List.drop_eq_getElem_cons hj];simp only[Thk.Zl]
theorem KI:∀ (s:List Thk.Term) (j:Nat) (hj:j<s.length),Jx s[j]≤YO s
 | [],_,hj=>by simp at hj
 | t::s,0,_=>by simp only[YO,List.getElem_cons_zero];omega
 | t::s,j+1,hj=>by simp only[YO,List.getElem_cons_succ];have:=KI s j (by simpa using hj);omega
theorem KH:∀ (c:List (List Thk.Term)) (j:Nat) (hj:j<c.length),YO c[j]≤Qt c
 | [],_,hj=>by simp at hj
 | t::s,0,_=>by simp only[Qt,List.getElem_cons_zero];omega
 | t::s,j+1,hj=>by simp only[Qt,List.getElem_cons_succ];have:=KH s j (by simpa using hj);omega
abbrev ZB (mb eb n:Nat):Obj:=.cells #[.map (some mb),.slice (some ⟨eb,0,none⟩) n n] 42
theorem zeE (k:Nat) (hC:∀ k',k'<k→Ko k') (w:World) (mb eb:Nat) (names:List Thk.z7) (E:List Bool) (A:Nat→Prop) (s:Thk.Seq) (u:Value) (hF:zQ w mb eb names E) (hp:QX w A s u) (hk:YO s≤k) :
  Calls Tryd.prog 55 #[zI mb eb names.length,u] w fun e w'=>e = .returned (.bool (Thk.ZH (Eb names E) s))∧Below w.heap.size w w':=by
 obtain⟨vs,⟨hrow,hA⟩,hts⟩:=hp
 obtain⟨ua,uc,rfl⟩:=zl hrow
 have hcap:s.length≤maxLen:=by
  rcases hrow.2 with ⟨_,h2⟩ | ⟨g,cap,cur,hv,_,_,h1,h2,_⟩
  ·omega
  ·exact Nat.le_trans h1 h2
 unfold maxLen at hcap
 have HVL:Hid (s.length=vs.length):=zD.length hts
 obtain⟨W,hW⟩:∃ W,W=w.alloc (ZB mb eb names.length):=⟨_,rfl⟩
 have hB0:Below w.heap.size w W:=by rw[hW];exact zc _ _
 have hWsz:W.heap.size=w.heap.size+1:=by rw[hW];simp
 have hbox:W.heap[w.heap.size]? = some (ZB mb eb names.length):=by rw[hW];exact zk _ _
 have HB0:Hid (Below w.heap.size w W):=hB0
 have HE:∃ R,R=Thk.ZH (Eb names E) s:=⟨_,rfl⟩
 obtain⟨R,hR⟩:=HE
 rw[← hR]
 have HR:Hid (R=Thk.ZH (Eb names E) (s.drop 0)):=by rw[hR];rfl
 clear hR
 simp only[zI]
 go_enter Tryd.func55,Tryd.ntmps55
 go_wp2_with fail
 rw[← hW]
 go_loopg [9] s.length (fun m i wr=>∃ j:Nat,m=s.length - j∧j≤s.length∧i = .int .i64 j∧Below W.heap.size W wr∧Hid (R=Thk.ZH (Eb names E) (s.drop j)))
 case atStart=>exact⟨0,rfl,Nat.zero_le _,rfl,Below.refl _ _,HR⟩
 case round=>
  obtain⟨j,rfl,hj,rfl,hb,hH⟩:=hrel
  have hbx0:wr.heap[w.heap.size]? = some (ZB mb eb names.length):=by rw[hb.block _ (by omega)];exact hbox
  have hbx:=z8 hbx0
  clear hbx0
  have hbw:Below w.heap.size w wr:=HB0.out.trans (hb.mono (by omega))
  have hsz:=hb.size
  by_cases hlt:j<s.length
  ·have hjv:j<vs.length:=by have:=HVL.out;omega
   obtain⟨g,rfl,hcs,hgl⟩:=Jk hrow (by omega)
   obtain⟨t0,t1,t2⟩:=V1 s vs HVL.out j hlt
   have c0:wr.cell? ⟨g,j * 3,none⟩=some (.int .u8 s[j].ahead.toNat):=by rw[hbw.cell (p:=⟨g,_,none⟩) hgl,hcs _ (by omega)];exact t0
   have c1 : wr.cell? ⟨g, j * 3 + 1, none⟩ = some (vs[j]'hjv) := by rw [hbw.cell (p := ⟨g, _, none⟩) hgl, hcs _ (by omega)]; exact t1
   have c2:wr.cell? ⟨g,j * 3+2,none⟩=some (.int .u8 s[j].behind.toNat):=by rw[hbw.cell (p:=⟨g,_,none⟩) hgl,hcs _ (by omega)];exact t2
   have htr:=zD.get hts j hlt hjv
   have hpc := fun O => zbt k hC (wr.alloc O) mb eb names E A s[j] (vs[j]'hjv) (hF.below (hbw.alloc (by omega) O)) (Zk.kept (ZF (hbw.alloc (by omega) O)) _ _ htr) (Nat.le_trans (KI s j hlt) hk)
   have hed:=zeD (Eb names E) s j hlt
   obtain ⟨tt, xx, hvx⟩ : ∃ t x, vs[j]'hjv = .iface t x := by
    cases htt:s[j] with
    | mk a p b=>rw[htt] at htr;simp only[Zk] at htr;exact zp.oneCell htr
   rw[hvx] at c1
   simp only[hvx,QN,zI] at hpc
   have HED:Hid (Thk.ZH (Eb names E) (s.drop j)=(Thk.Zu (Eb names E) s[j] && Thk.ZH (Eb names E) (s.drop (j+1)))):=hed
   have hlt':(j:Int)<s.length:=by omega
   clear hed htr t0 t1 t2 hvx hcs
   generalize hr:Thk.Zu (Eb names E) s[j]=r at *
   generalize s[j].ahead=ah at *
   generalize s[j].behind=be at *
   clear hr
   have hw9:w.heap.size<wr.heap.size:=by omega
   cases r with
   | true=>
    go_wp2_with fail
    refine (hpc _).mono ?_
    rintro e w1 ⟨rfl,hb1⟩
    have hs1:=hb1.size
    simp at hs1
    have hb2:Below W.heap.size W w1:=(hb.alloc hsz _).trans (hb1.mono (by simp;omega))
    clear hpc hb1
    go_wp2_with fail
    go_roundg (s.length - (j+1))
    case measure=>omega
    case rel=>exact⟨j+1,rfl,by omega,by go_num,hb2,by have h1:=hH.out;rw[HED.out,Bool.true_and] at h1;exact h1⟩
   | false=>
    go_wp2_with fail
    refine (hpc _).mono ?_
    rintro e w1 ⟨rfl,hb1⟩
    have hs1:=hb1.size
    simp at hs1
    have hb2:Below w.heap.size w w1:=(hbw.alloc (by omega) _).trans (hb1.mono (by simp;omega))
    clear hpc hb1
    go_wp2_with fail
    go_ret
    exact⟨by have h1:=hH.out;rw[HED.out,Bool.false_and] at h1;rw[h1];rfl,hb2⟩
  ·have hje:j=s.length:=by omega
   have hRt:Hid (R=true):=by
    have h1:=hH.out
    rw[hje,List.drop_length] at h1
    exact h1
   clear hH
   go_wp2_with fail
   go_ret
   exact⟨by rw[hRt.out];rfl,hbw⟩
theorem zeA (k:Nat) (hC:∀ k',k'<k→Ko k'):Ko k:=by
 intro w mb eb names E A c u hF hp hk
 obtain⟨vs,⟨hrow,hA⟩,hts⟩:=hp
 obtain⟨ua,uc,rfl⟩:=zl hrow
 have hcap:c.length≤maxLen:=by
  rcases hrow.2 with ⟨_,h2⟩ | ⟨g,cap,cur,hv,_,_,h1,h2,_⟩
  ·omega
  ·exact Nat.le_trans h1 h2
 unfold maxLen at hcap
 have HVL:Hid (c.length=vs.length):=zA.length hts
 obtain⟨W,hW⟩:∃ W,W=w.alloc (ZB mb eb names.length):=⟨_,rfl⟩
 have hB0:Below w.heap.size w W:=by rw[hW];exact zc _ _
 have hWsz:W.heap.size=w.heap.size+1:=by rw[hW];simp
 have hbox:W.heap[w.heap.size]? = some (ZB mb eb names.length):=by rw[hW];exact zk _ _
 have HB0:Hid (Below w.heap.size w W):=hB0
 have HE:∃ R,R=Thk.Zl (Eb names E) c:=⟨_,rfl⟩
 obtain⟨R,hR⟩:=HE
 rw[← hR]
 have HR:Hid (R=Thk.Zl (Eb names E) (c.drop 0)):=by rw[hR];rfl
 clear hR
 simp only[zI]
 go_enter Tryd.func35,Tryd.ntmps35
 go_wp2_with fail
 rw[← hW]
 go_loopg [9] c.length (fun m i wr=>∃ j:Nat,m=c.length - j∧j≤c.length∧i = .int .i64 j∧Below W.heap.size W wr∧Hid (R=Thk.Zl (Eb names E) (c.drop j)))
 case atStart=>exact⟨0,rfl,Nat.zero_le _,rfl,Below.refl _ _,HR⟩
 case round=>
  obtain⟨j,rfl,hj,rfl,hb,hH⟩:=hrel
  have hbx0:wr.heap[w.heap.size]? = some (ZB mb eb names.length):=by rw[hb.block _ (by omega)];exact hbox
  have hbx:=z8 hbx0
  clear hbx0
  have hbw:Below w.heap.size w wr:=HB0.out.trans (hb.mono (by omega))
  have hsz:=hb.size
  by_cases hlt:j<c.length
  ·have hjv:j<vs.length:=by have:=HVL.out;omega
   obtain⟨g,rfl,hcs,hgl⟩:=Jk hrow (by omega)
   have c0 : wr.cell? ⟨g, j, none⟩ = some (vs[j]'hjv) := by rw [hbw.cell (p := ⟨g, _, none⟩) hgl, hcs _ (by omega)]; exact List.getElem?_eq_getElem hjv
   have htr:=zA.get hts j hlt hjv
   have hdj:=Nat.le_trans (KH c j hlt) hk
   have hpc := zeE k hC wr mb eb names E A c[j] (vs[j]'hjv) (hF.below hbw) (htr.kept (ZF hbw)) hdj
   have hed:=zey (Eb names E) c j hlt
   obtain ⟨tt, xx, hvx⟩ : ∃ t x, vs[j]'hjv = .slice t c[j].length x := by
    obtain⟨_,hr,_⟩:=htr
    exact zl hr.1
   rw[hvx] at c0
   simp only[hvx,zI] at hpc
   have HED:Hid (Thk.Zl (Eb names E) (c.drop j)=(Thk.ZH (Eb names E) c[j] || Thk.Zl (Eb names E) (c.drop (j+1)))):=hed
   have hlt':(j:Int)<c.length:=by omega
   clear hed htr hvx hcs
   generalize hr:Thk.ZH (Eb names E) c[j]=r at *
   generalize c[j].length=cl at *
   clear hr
   have hw9:w.heap.size<wr.heap.size:=by omega
   cases r with
   | false=>
    go_wp2_with fail
    refine hpc.mono ?_
    rintro e w1 ⟨rfl,hb1⟩
    have hb2:Below W.heap.size W w1:=hb.trans (hb1.mono (by omega))
    clear hpc hb1
    go_wp2_with fail
    go_roundg (c.length - (j+1))
    case measure=>omega
    case rel=>exact⟨j+1,rfl,by omega,by go_num,hb2,by have h1:=hH.out;rw[HED.out,Bool.false_or] at h1;exact h1⟩
   | true=>
    go_wp2_with fail
    refine hpc.mono ?_
    rintro e w1 ⟨rfl,hb1⟩
    have hb2:Below w.heap.size w w1:=hbw.trans (hb1.mono (by omega))
    clear hpc hb1
    go_wp2_with fail
    go_ret
    exact⟨by have h1:=hH.out;rw[HED.out,Bool.true_or] at h1;rw[h1];rfl,hb2⟩
  ·have hje:j=c.length:=by omega
   have hRt:Hid (R=false):=by
    have h1:=hH.out
    rw[hje,List.drop_length] at h1
    exact h1
   clear hH
   go_wp2_with fail
   go_ret
   exact⟨by rw[hRt.out];rfl,hbw⟩
theorem qN (k:Nat):Ko k:=by
 induction k using Nat.strongRecOn with
 | ind k ih=>exact zeA k ih
theorem zeC (w:World) (mb eb:Nat) (names:List Thk.z7) (E:List Bool) (A:Nat→Prop) (p:Thk.zC) (v:Value) (hF:zQ w mb eb names E) (hp:zp w A p v) :
  Calls Tryd.prog 38 #[zI mb eb names.length,v] w fun e w'=>e = .returned (.bool (Thk.Ze (Eb names E) p))∧Below w.heap.size w w':=
 zbr (Y6 p) (fun k _=>qN k) w mb eb names E A p v hF hp (Nat.le_refl _)
theorem zeG (w:World) (mb eb:Nat) (names:List Thk.z7) (E:List Bool) (A:Nat→Prop) (t:Thk.Term) (v:Value) (hF:zQ w mb eb names E) (hp:Zk w A t v) :
  Calls Tryd.prog 57 #[zI mb eb names.length,QN t v] w fun e w'=>e = .returned (.bool (Thk.Zu (Eb names E) t))∧Below w.heap.size w w':=
 zbt (Jx t) (fun k _=>qN k) w mb eb names E A t v hF hp (Nat.le_refl _)
theorem zez (w:World) (mb eb:Nat) (names:List Thk.z7) (E:List Bool) (A:Nat→Prop) (c:Thk.Z5) (u:Value) (hF:zQ w mb eb names E) (hp:Zt w A c u) :
  Calls Tryd.prog 35 #[zI mb eb names.length,u] w fun e w'=>e = .returned (.bool (Thk.Zl (Eb names E) c))∧Below w.heap.size w w':=
 qN (Qt c) w mb eb names E A c u hF hp (Nat.le_refl _)
mutual
theorem zeB {E F:Thk.z7→Bool} (h:∀ b,E b=true→F b=true):∀ (p:Thk.zC),Thk.Ze E p=true→Thk.Ze F p=true
  | .name b,hp=>h b hp
  | .group c,hp=>by simp only[Thk.Ze] at hp ⊢;exact qM h c hp
  | .lit _,hp=>by simp[Thk.Ze] at hp
  | .cls _,hp=>by simp[Thk.Ze] at hp
  | .any,hp=>by simp[Thk.Ze] at hp
theorem zeF {E F:Thk.z7→Bool} (h:∀ b,E b=true→F b=true):∀ (t:Thk.Term),Thk.Zu E t=true→Thk.Zu F t=true
  | .mk a p b,ht=>by
    simp only[Thk.Zu,Bool.or_eq_true] at ht ⊢
    rcases ht with ht | ht
    · exact .inl ht
    · exact .inr (zeB h p ht)
theorem zbs {E F:Thk.z7→Bool} (h:∀ b,E b=true→F b=true):∀ (s:List Thk.Term),Thk.ZH E s=true→Thk.ZH F s=true
  | [],_=>by simp[Thk.ZH]
  | t::s,hs=>by
    simp only[Thk.ZH,Bool.and_eq_true] at hs ⊢
    exact⟨zeF h t hs.1,zbs h s hs.2⟩
theorem qM {E F:Thk.z7→Bool} (h:∀ b,E b=true→F b=true):∀ (c:List (List Thk.Term)),Thk.Zl E c=true→Thk.Zl F c=true
  | [],hc=>by simp[Thk.Zl] at hc
  | s::c,hc=>by
    simp only[Thk.Zl,Bool.or_eq_true] at hc ⊢
    rcases hc with hc | hc
    · exact .inl (zbs h s hc)
    · exact .inr (qM h c hc)
 end
def QP (names:List Thk.z7) (g:List Thk.ze) (E:List Bool):Prop:=∀ i (h:i<g.length),Thk.Zl (Eb names E) g[i].choice=true→E.getD i false=true
def QQ (names:List Thk.z7) (g:List Thk.ze) (E:List Bool):Prop:=∀ F:List Bool,QP names g F→∀ i,E.getD i false=true→F.getD i false=true
theorem QQ.set {names:List Thk.z7} {g:List Thk.ze} {E:List Bool} (h:QQ names g E) {i:Nat} (hi:i<g.length) (he:Thk.Zl (Eb names E) g[i].choice=true):QQ names g (E.set i true):=by
 intro F hF j hj
 by_cases hij:j=i
 ·subst hij
  exact hF j hi (qM (fun b hb=>h F hF _ hb) _ he)
 ·refine h F hF j ?_
  rw[List.getD_eq_getElem?_getD,List.getElem?_set,if_neg (fun e=>hij e.symm)] at hj
  rw[List.getD_eq_getElem?_getD];exact hj
def cf (E:List Bool):Nat:=E.countP (· == false)
theorem zef {E:List Bool} {i:Nat} (hi:i<E.length) (h:E.getD i false=false):cf (E.set i true)<cf E:=by
 unfold cf
 have h':E[i]=false:=by simpa [hi] using h
 induction E generalizing i with
 | nil=>simp at hi
 | cons x xs ih=>
  cases i with
  | zero=>simp at h';subst h';simp
  | succ i=>
   have:=ih (i:=i) (by simpa using hi) (by simpa using h) (by simpa using h')
   simp only[List.set_cons_succ,List.countP_cons]
   omega
theorem qI (E:List Bool) (i:Nat):Obj.cells ((E.map Value.bool).toArray.setIfInBounds i (.bool true)) 4 (0,0)=zH (E.set i true):=by
 unfold zH
 congr 1
 apply Array.toList_inj.1
 simp[List.map_set]
theorem zas {A:Nat→Prop} {eb:Nat} {w w':World} {E:List Bool} (hr:w.heap[eb]? = some (zH E)) (hk:Kp eb w.heap.size w w') (hA:∀ g,A g→g≠eb):Sm A w w':=
 ⟨fun _ _ h=>JT h hr (by decide) hk,fun g hg ha=>hk.block g hg (hA g ha)⟩
theorem Zj.kept {w w':World} {A:Nat→Prop} (h:Sm A w w') {g:List Thk.ze} {v:Value} (hg:Zj w A g v):Zj w' A g v:=by
 obtain⟨vs,h1,h2⟩:=hg
 exact⟨vs,h1.kept h.blocks,zW.kept h h2⟩
theorem zW.get {w:World} {A:Nat→Prop}:∀ {g:List Thk.ze} {vs:List Value} (h:zW w A g vs) (j:Nat) (hj:j<g.length) (hv:j<vs.length),Zt w A g[j].choice vs[j]∧g[j].name.length≤2000
 | [],_,_,_,hj,_=>by simp at hj
 | t::s,vs,h,j,hj,hv=>by
  obtain⟨v,vs',rfl,h1,h2⟩:=h
  cases j with
  | zero=>exact h1
  | succ j=>exact zW.get h2 j (by simpa using hj) (by simpa using hv)
theorem zct:∀ (g:List Thk.ze) (vs:List Value) (h:g.length=vs.length) (j:Nat) (hj:j<g.length),
  (J0 g vs)[j * 2]? = some (.string ⟨g[j].name.toArray⟩) ∧ (J0 g vs)[j * 2 + 1]? = some (vs[j]'(by omega))
 | [],_,_,_,hj=>by simp at hj
 | _::_,[],h,_,_=>by simp at h
 | r::s,v::vs,h,0,_=>by simp[J0]
 | r::s,v::vs,h,j+1,hj=>by
  have:=zct s vs (by simpa using h) j (by simpa using hj)
  simp only[J0,List.getElem_cons_succ]
  rw[show (j+1) * 2=j * 2+1+1 from by omega]
  simpa using this
theorem Zj.at {w:World} {A:Nat→Prop} {g:List Thk.ze} {ga:Addr} {gc:Nat} (h:Zj w A g (.slice (some ga) g.length gc)) (j:Nat) (hj:j<g.length) :
  ∃ gb a c,ga=⟨gb,0,none⟩∧gb<w.heap.size∧A gb∧w.cell? ⟨gb,j * 2,none⟩=some (.string ⟨g[j].name.toArray⟩)∧w.cell? ⟨gb,j * 2+1,none⟩=some (.slice a g[j].choice.length c) ∧
   Zt w A g[j].choice (.slice a g[j].choice.length c)∧g[j].name.length≤2000:=by
 obtain⟨vs,⟨h1,h2⟩,h3⟩:=h
 obtain⟨gb,e1,hcs,hlt⟩:=Jk h1 (by omega)
 have hvl:=zW.length h3
 obtain⟨r0,r1⟩:=zct g vs hvl j hj
 obtain⟨hc,hn⟩:=zW.get h3 j hj (by omega)
 have hform : ∃ a c, vs[j]'(by omega) = .slice a g[j].choice.length c := by
  obtain⟨us,hr,_⟩:=hc
  exact zl hr.1
 obtain⟨a,c,hv⟩:=hform
 simp only[Option.some.injEq] at e1
 rw[hv] at r1 hc
 exact⟨gb,a,c,e1,hlt,h2 gb (by rw[e1];rfl),by rw[hcs _ (by omega)];exact r0,by rw[hcs _ (by omega)];exact r1,hc,hn⟩
theorem zQ.kp {w w':World} {mb eb:Nat} {names:List Thk.z7} {E E':List Bool} (h:zQ w mb eb names E) (hk:Kp eb w.heap.size w w') (he:w'.heap[eb]? = some (zH E')) (hl:E'.length=E.length):zQ w' mb eb names E':=by
 refine⟨h.map.same (hk.block mb h.map.lt ?_),he,hl.trans h.len,h.pos,h.le⟩
 intro e
 subst e
 obtain⟨D,⟨es,clock,h1,_⟩,_⟩:=h.map
 have:=h.emp
 rw[h1] at this
 simp[zH] at this
structure V7 (W:World) (mb eb:Nat) (names:List Thk.z7) (g:List Thk.ze) (E:List Bool) (wr:World):Prop where
 facts:zQ wr mb eb names E
 kp:Kp eb W.heap.size W wr
 least:QQ names g E
theorem zeU (w:World) (mb eb:Nat) (names:List Thk.z7) (E:List Bool) (A:Nat→Prop) (g:List Thk.ze) (ga:Addr) (gc:Nat) (hF:zQ w mb eb names E) (hG:Zj w A g (.slice (some ga) g.length gc)) (hA:∀ b,A b→b≠eb)
  (hgn:g.length=names.length) (hL:QQ names g E) :
  Calls Tryd.prog 22 #[zI mb eb names.length,.slice (some ga) g.length gc] w fun e w'=>
   e = .returned (.tuple #[])∧Kp eb w.heap.size w w'∧∃ E',zQ w' mb eb names E'∧QP names g E'∧QQ names g E':=by
 have hle:=hF.le
 have hpos:=hF.pos
 obtain⟨W,hW⟩:∃ W,W=w.alloc (ZB mb eb names.length):=⟨_,rfl⟩
 have hB0:Below w.heap.size w W:=by rw[hW];exact zc _ _
 have hWsz:W.heap.size=w.heap.size+1:=by rw[hW];simp
 have hbox:W.heap[w.heap.size]? = some (ZB mb eb names.length):=by rw[hW];exact zk _ _
 have hebl:eb<w.heap.size:=zd hF.emp
 have HB0:Hid (Below w.heap.size w W):=hB0
 have HS0:Hid (V7 W mb eb names g E W):=⟨hF.below hB0,Kp.refl _ _ _,hL⟩
 have HG:Hid (Zj W A g (.slice (some ga) g.length gc)):=hG.kept (ZF hB0)
 have HA:Hid (∀ b,A b→b≠eb):=hA
 have HGN:Hid (g.length=names.length):=hgn
 have hgl:g.length≤20:=by omega
 have hgp : 0<g.length:=by omega
 clear hF hG hL hB0 hA hgn
 simp only[zI]
 go_enter Tryd.func22,Tryd.ntmps22
 go_wp2_with fail
 rw[← hW]
 go_loopg [4] (cf E+1) (fun m v wr=>∃ E' ad,v = .bool ad∧m=(if ad then cf E'+1 else 0)∧V7 W mb eb names g E' wr∧Hid (ad=false→QP names g E'))
 case atStart=>exact⟨E,true,rfl,rfl,HS0.out,fun h=>by cases h⟩
 case round=>
  obtain⟨E1,ad,rfl,hm,hR,hcl⟩:=hrel
  have HM:Hid (gk=if ad then cf E1+1 else 0):=hm
  clear hm
  have HR:Hid (V7 W mb eb names g E1 wr):=hR
  have hszr:=hR.kp.size
  clear hR
  cases ad with
  | false=>
   have HC:Hid (QP names g E1):=hcl.out rfl
   clear hcl
   go_wp2_with fail
   go_end0
   exact⟨rfl,(Kp.of HB0.out).trans (HR.out.kp.mono (by omega)),E1,HR.out.facts,HC.out,HR.out.least⟩
  | true=>
   clear hcl
   go_wp2_with fail
   go_loopg [4,10] g.length (fun m v i wr=>∃ (j:Nat) (E2:List Bool) (ad:Bool),m=g.length - j∧j≤g.length∧v = .bool ad∧i = .int .i64 j∧V7 W mb eb names g E2 wr ∧
    Hid (ad=false→E2=E1∧∀ t (ht:t<g.length),t<j→Thk.Zl (Eb names E1) g[t].choice=true→E1.getD t false=true)∧Hid (ad=true→cf E2<cf E1))
   case atStart=>exact⟨0,E1,false,rfl,Nat.zero_le _,rfl,rfl,HR.out,fun _=>⟨rfl,fun t _ ht=>by omega⟩,fun h=>by cases h⟩
   case round=>
    obtain⟨j,E2,ad,rfl,hj,rfl,rfl,hR2,hf,ht⟩:=hrel
    have HR2:Hid (V7 W mb eb names g E2 wr):=hR2
    have hszr2:=hR2.kp.size
    have hE2:=hR2.facts.emp
    have hbx0:wr.heap[w.heap.size]? = some (ZB mb eb names.length):=by rw[hR2.kp.block _ (by omega) (by omega)];exact hbox
    have hbx:=z8 hbx0
    clear hR2 hbx0
    by_cases hlt:j<g.length
    ·have hGr:Zj wr A g (.slice (some ga) g.length gc):=HG.out.kept (zas HS0.out.facts.emp HR2.out.kp HA.out)
     obtain⟨gb,a,c,rfl,hgb,hAgb,c0,c1,hCh,hnm⟩:=hGr.at j hlt
     have hjn:j<names.length:=by have:=HGN.out;omega
     have hem:=HR2.out.facts.cell j hjn
     have hfz:=zi hE2 j
     have hB1:∀ O,Below wr.heap.size wr (wr.alloc O):=fun O=>zc _ _
     have hec:=fun O=>zez (wr.alloc O) mb eb names E2 A g[j].choice _ (HR2.out.facts.below (hB1 O)) (hCh.kept (ZF (hB1 O)))
     simp only[zI] at hec
     have hlt':(j:Int)<g.length:=by omega
     have hjn':(j:Int)<names.length:=by omega
     have hw9:w.heap.size<wr.heap.size:=by omega
     have hebr:eb<wr.heap.size:=zd hE2
     have hle2:E2.length=names.length:=HR2.out.facts.len
     have HLE2:Hid (E2.length=names.length):=hle2
     have HE2:Hid (wr.heap[eb]? = some (zH E2)):=hE2
     clear hGr hCh hB1 hle2 hE2
     cases hej:E2.getD j false with
     | true=>
      rw[hej] at hem
      have hN:Hid (ad=false→E2=E1∧∀ t (ht:t<g.length),t<j+1→Thk.Zl (Eb names E1) g[t].choice=true→E1.getD t false=true):=by
       intro had
       obtain⟨h1,h2⟩:=hf.out had
       refine⟨h1,fun t ht htj he=>?_⟩
       by_cases e:t=j
       ·subst e;rw[← h1];exact hej
       ·exact h2 t ht (by omega) he
      clear hej hec hf
      go_wp2_with fail
      go_roundg (g.length - (j+1))
      case measure=>omega
      case rel=>exact⟨j+1,E2,ad,rfl,by omega,rfl,by go_num,⟨HR2.out.facts.below (zc _ _),HR2.out.kp.alloc (by omega) _,HR2.out.least⟩,hN,ht⟩
     | false=>
      rw[hej] at hem
      have HEJ:Hid (E2.getD j false=false):=hej
      clear hej
      cases hr:Thk.Zl (Eb names E2) g[j].choice with
      | false=>
       have HRR:Hid (Thk.Zl (Eb names E2) g[j].choice=false):=hr
       simp only[hr] at hec
       clear hr
       have hN:Hid (ad=false→E2=E1∧∀ t (ht:t<g.length),t<j+1→Thk.Zl (Eb names E1) g[t].choice=true→E1.getD t false=true):=by
        intro had
        obtain⟨h1,h2⟩:=hf.out had
        refine⟨h1,fun t ht htj he=>?_⟩
        by_cases e:t=j
        ·subst e;rw[← h1,HRR.out] at he;cases he
        ·exact h2 t ht (by omega) he
       clear hf
       go_wp2_with fail
       refine (hec _).mono ?_
       rintro e w1 ⟨rfl,hb1⟩
       have hs1:=hb1.size
       simp at hs1
       have hb2:Below wr.heap.size wr w1:=(zc _ _).trans (hb1.mono (by simp))
       clear hec hb1
       go_wp2_with fail
       go_roundg (g.length - (j+1))
       case measure=>omega
       case rel=>exact⟨j+1,E2,ad,rfl,by omega,rfl,by go_num,⟨HR2.out.facts.below hb2,HR2.out.kp.trans (Kp.of (hb2.mono (by omega))),HR2.out.least⟩,hN,ht⟩
      | true=>
       have HRR:Hid (Thk.Zl (Eb names E2) g[j].choice=true):=hr
       simp only[hr] at hec
       clear hr
       go_wp2_with fail
       refine (hec _).mono ?_
       rintro e w1 ⟨rfl,hb1⟩
       have hs1:=hb1.size
       simp at hs1
       have hb2:Below wr.heap.size wr w1:=(zc _ _).trans (hb1.mono (by simp))
       have hem1:w1.heap[eb]? = some (zH E2):=by rw[hb2.block _ hebr];exact HE2.out
       have hc1:w1.cell? ⟨eb,j,none⟩=some (.bool false):=by rw[hb2.cell (p:=⟨eb,j,none⟩) hebr];exact hem
       have hfz1:=zi hem1 j
       have hbx1:∀ o,w1.cell? ⟨w.heap.size,o,none⟩=(#[.map (some mb),.slice (some ⟨eb,0,none⟩) names.length names.length]:Array Value)[o]? := fun o=>by rw[hb2.cell (p:=⟨w.heap.size,o,none⟩) hw9];exact hbx o
       have hw91:w.heap.size<w1.heap.size:=by omega
       have HB2:Hid (Below wr.heap.size wr w1):=hb2
       have HEM1:Hid (w1.heap[eb]? = some (zH E2)):=hem1
       clear hec hb1 hb2 hem1
       go_wp2_with fail
       have hset:(w1.setCell ⟨eb,j,none⟩ (.bool true)).heap[eb]? = some (zH (E2.set j true)):=by
        rw[zo HEM1.out,qI]
       have hkp1:Kp eb w1.heap.size w1 (w1.setCell ⟨eb,j,none⟩ (.bool true)):=(Kp.refl _ _ _).setRb _ _
       have hF1:zQ w1 mb eb names E2:=HR2.out.facts.below HB2.out
       go_roundg (g.length - (j+1))
       case measure=>omega
       case rel=>
        refine⟨j+1,E2.set j true,true,rfl,by omega,rfl,by go_num,⟨hF1.kp hkp1 hset (by simp),(HR2.out.kp.trans (Kp.of (HB2.out.mono (by omega)))).setRb _ _,HR2.out.least.set hlt HRR.out⟩,(fun h=>by cases h),fun _=>?_⟩
        have h1:=zef (E:=E2) (i:=j) (by rw[HLE2.out];exact hjn) HEJ.out
        cases ad with
        | true=>have:=ht.out rfl;omega
        | false=>obtain⟨h2,_⟩:=hf.out rfl;rw[← h2];exact h1
    ·have hjg:j=g.length:=by omega
     have HT:Hid ((if ad then cf E2+1 else 0)<gk):=by
      show _<_
      rw[HM.out]
      cases ad with
      | true=>have:=ht.out rfl;simp;omega
      | false=>simp
     have HC:Hid (ad=false→QP names g E2):=by
      intro had
      obtain⟨h1,h2⟩:=hf.out had
      intro t htl he
      rw[h1] at he ⊢
      exact h2 t htl (by omega) he
     clear hf ht
     go_wp2_with fail
     go_roundg (if ad then cf E2+1 else 0)
     case measure=>exact HT.out
     case rel=>exact⟨E2,ad,rfl,rfl,HR2.out,HC⟩
def Jp (ns:List Thk.z7) (i:Nat):Bool:=(ns.take i).contains (ns.getD i [])
def zg (g:List Thk.ze):List Thk.z7:=g.map (·.name)
theorem zgI (g:List Thk.ze) (j:Nat) (hj:j<g.length):(zg g).getD j []=g[j].name:=by simp[zg,hj]
theorem zgJ (g:List Thk.ze) (j:Nat) (hj:j<g.length):(zg g).take (j+1)=(zg g).take j++[g[j].name]:=by
 have h:j<(zg g).length:=by simp[zg,hj]
 rw[List.take_succ_eq_append_getElem h]
 simp[zg]
def JG (ns:List Thk.z7):Option Nat→Prop
 | none=>∀ i,i<ns.length→Jp ns i=false
 | some i=>i<ns.length∧Jp ns i=true∧∀ t,t<i→Jp ns t=false
def JP (er:Nat):Option Nat→Value
 | none=>.nilIface
 | some i=>zS er i
theorem zgW (w:World) (mb eb n:Nat) (A:Nat→Prop) (g:List Thk.ze) (ga:Addr) (gc:Nat) (hM:Zd w mb []) (hG:Zj w A g (.slice (some ga) g.length gc)) (hA:∀ b,A b→b≠mb) (hgl:g.length≤20) :
  Calls Tryd.prog 19 #[zI mb eb n,.slice (some ga) g.length gc] w fun e w'=>
   Kp mb w.heap.size w w'∧∃ o,JG (zg g) o∧e = .returned (JP 5 o)∧(o=none→Zd w' mb (zg g)):=by
 obtain⟨W,hW⟩:∃ W,W=w.alloc (ZB mb eb n):=⟨_,rfl⟩
 have hB0:Below w.heap.size w W:=by rw[hW];exact zc _ _
 have hWsz:W.heap.size=w.heap.size+1:=by rw[hW];simp
 have hbox:W.heap[w.heap.size]? = some (ZB mb eb n):=by rw[hW];exact zk _ _
 have hmbl:mb<w.heap.size:=hM.lt
 obtain⟨es0,cl0,hmb0⟩:∃ es cl,w.heap[mb]? = some (.map es cl):=by obtain⟨D,⟨es,cl,h1,_⟩,_⟩:=hM;exact⟨es,cl,h1⟩
 have hmbW:W.heap[mb]? = some (.map es0 cl0):=by rw[hB0.block _ hmbl];exact hmb0
 have HB0:Hid (Below w.heap.size w W):=hB0
 have HM0:Hid (Zd W mb []):=hM.below hB0
 have HG:Hid (Zj W A g (.slice (some ga) g.length gc)):=hG.kept (ZF hB0)
 have HA:Hid (∀ b,A b→b≠mb):=hA
 clear hM hG hB0 hmb0 hA
 have HMB:Hid (W.heap[mb]? = some (.map es0 cl0)):=hmbW
 clear hmbW
 simp only[zI]
 go_enter Tryd.func19,Tryd.ntmps19
 go_wp2_with fail
 rw[← hW]
 go_loopg [11] g.length (fun m i wr=>∃ (j:Nat),m=g.length - j∧j≤g.length∧i = .int .i64 j∧Zd wr mb ((zg g).take j)∧Kp mb W.heap.size W wr∧Hid (∀ t,t<j→Jp (zg g) t=false))
 case atStart=>exact⟨0,rfl,Nat.zero_le _,rfl,by simpa using HM0.out,Kp.refl _ _ _,fun t ht=>by omega⟩
 case round=>
  obtain⟨j,rfl,hj,rfl,hMr,hK,hno⟩:=hrel
  have hszr:=hK.size
  have hbx0:wr.heap[w.heap.size]? = some (ZB mb eb n):=by rw[hK.block _ (by omega) (by omega)];exact hbox
  have hbx:=z8 hbx0
  have hw9:w.heap.size<wr.heap.size:=by omega
  have hmr:=hMr.lt
  have HK:Hid (Kp mb W.heap.size W wr):=hK
  have HM:Hid (Zd wr mb ((zg g).take j)):=hMr
  clear hbx0 hK hMr
  by_cases hlt:j<g.length
  ·have hSm:Sm A W wr:=by
    refine⟨fun u l hl=>Z6 hl (fun b hb=>HK.out.block b (hl.lt b hb).2 ?_),fun b hb ha=>HK.out.block b hb ?_⟩
    ·intro e;subst e
     obtain⟨cur,h1⟩:=Zr hl hb
     rw[HMB.out] at h1;cases h1
    ·exact HA.out b ha
   have hGr:Zj wr A g (.slice (some ga) g.length gc):=HG.out.kept hSm
   obtain⟨gb,a,c,rfl,hgb,hAgb,c0,c1,hCh,hnm⟩:=hGr.at j hlt
   have hnt:=zgJ g j hlt
   have htw:Jp (zg g) j=((zg g).take j).contains g[j].name:=by unfold Jp;rw[zgI g j hlt]
   have hlk:=fun O=>(HM.out.below (zc wr O)).lookOk g[j].name hnm
   have hlt':(j:Int)<g.length:=by omega
   have HNT:Hid ((zg g).take (j+1)=(zg g).take j++[g[j].name]):=hnt
   have HTW:Hid (Jp (zg g) j=((zg g).take j).contains g[j].name):=htw
   have HNM:Hid (g[j].name.length≤2000):=hnm
   have htl:((zg g).take j).length=j:=by simp[zg];omega
   clear hGr hCh hnt htw hSm hnm
   cases hcn:((zg g).take j).contains g[j].name with
   | true=>
    simp only[hcn] at hlk
    have HF:Hid (JG (zg g) (some j)):=⟨by simp[zg];exact hlt,by rw[HTW.out];exact hcn,hno.out⟩
    clear hcn hno
    go_wp2_with fail
    go_ret
    exact⟨((Kp.of HB0.out).trans (HK.out.mono (by omega))).alloc (by omega) _,some j,HF.out,rfl,fun h=>by cases h⟩
   | false=>
    simp only[hcn] at hlk
    have HN:Hid (∀ t,t<j+1→Jp (zg g) t=false):=by
     intro t ht
     by_cases e:t=j
     ·subst e;rw[HTW.out];exact hcn
     ·exact hno.out t (by omega)
    have HCN:Hid (((zg g).take j).contains g[j].name=false):=hcn
    clear hcn hno
    obtain⟨D,hown,hD⟩:=HM.out
    rw[htl] at hown
    have HD:Hid (∀ b,D.atKey (.string b) (.lit (.int .i64 0)) = .lit (.int .i64 (Up ((zg g).take j) b))∧Maps.has D (.string b)=((zg g).take j).contains b):=hD
    have hkey:=za7 g[j].name HNM.out
    clear hD
    go_wp2_with (first | (at_mapUpdate;refine wpList_mapUpdate_own _ rfl _ _ _ 39 rfl 9 3 za6 Tryd.underlying39 _ mb j _ rfl (hown.alloc _) (by unfold maxLen;omega) _ _ _ rfl rfl hkey _ [] (plainElem_int Tryd.underlying3 (WalkArith.wf_i64 (by omega))) ?_))
    intro w1 hown1 hgrow1
    have hm1:Zd w1 mb ((zg g).take (j+1)):=by
     rw[HNT.out]
     refine Zd.put (w:=wr) HD.out hown.isMap HCN.out ?_ HNM.out
     rw[htl];exact hown1
    have hk1:Kp mb W.heap.size W w1:=by
     have h1:Kp mb W.heap.size W (wr.alloc (.cells #[.string ⟨g[j].name.toArray⟩,.slice a g[j].choice.length c] 90)):=HK.out.alloc hszr _
     exact h1.trans ⟨hgrow1.os,hgrow1.tape,hgrow1.output,hgrow1.size,fun b hb hne=>hgrow1.block b (by simp;omega) (by simpa using hne)⟩
    clear hown1 hgrow1 hown hlk
    go_wp2_with fail
    go_roundg (g.length - (j+1))
    case measure=>omega
    case rel=>exact⟨j+1,rfl,by omega,by go_num,hm1,hk1,HN⟩
  ·have hjg:j=g.length:=by omega
   have HF:Hid (JG (zg g) none):=fun t ht=>hno.out t (by simp[zg] at ht;omega)
   have HM2:Hid (Zd wr mb (zg g)):=by
    have:=HM.out
    rw[hjg,List.take_of_length_le (by simp[zg])] at this
    exact this
   clear hno
   go_wp2_with fail
   go_ret
   exact⟨(Kp.of HB0.out).trans (HK.out.mono (by omega)),none,HF.out,rfl,fun _=>HM2.out⟩
end Go.Proofs.YtiganlkabilblaaDoor
