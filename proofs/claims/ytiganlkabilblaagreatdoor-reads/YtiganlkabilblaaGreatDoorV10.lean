import Derived.Test.YtiganlkabilblaaGreatDoorV01
import Derived.Test.YtiganlkabilblaaGreatDoorV03
import Derived.Deep.AppendLies
import Derived.Deep.LoopGhost
set_option linter.all false
set_option maxHeartbeats 64000000
set_option maxRecDepth 100000
namespace Go.Proofs.YtiganlkabilblaaGreatDoor
open Go.RowKit
theorem zbn {s:ByteArray} {j:Nat} {c:UInt8} (hj:j<s.size):(s.data.toList.drop j).contains c=(s[j] == c || (s.data.toList.drop (j+1)).contains c):=by
 rw[Q6 s j hj,List.contains_cons]
 congr 1
 exact Bool.eq_iff_iff.2 ⟨fun h=>by rw[beq_iff_eq] at h ⊢;exact h.symm,fun h=>by rw[beq_iff_eq] at h ⊢;exact h.symm⟩
theorem VO (s:ByteArray) (c:UInt8) (r:Bool) (w:World) (hs:s.size≤2000) (hr:s.data.toList.contains c=r) :
  Calls Tryz.prog 137 #[.string s,.int .u8 c.toNat] w fun e w'=>e = .returned (.bool r)∧w'=w:=by
 have HR:Hid ((s.data.toList.drop 0).contains c=r):=show (s.data.toList.drop 0).contains c=r from hr
 clear hr
 go_enter Tryz.func137,Tryz.ntmps137
 go_wp2_with fail
 go_loop [5] (fun i=>∃ j:Nat,j≤s.size∧i = .int .i64 j∧Hid ((s.data.toList.drop j).contains c=r)) (fun i=>s.size - (intOf i).toNat)
 case atStart=>exact⟨0,Nat.zero_le _,rfl,HR⟩
 case round=>
  obtain⟨j,hj,rfl,hH⟩:=hrel
  by_cases hlt:j<s.size
  ·by_cases hc:s[j]=c
   ·have t:((s[j].toNat:Int) == (c.toNat:Int))=true:=by rw[hc];simp
    have h:r=true:=by have:=hH.out;rw[zbn hlt] at this;rw[← this,hc];simp
    clear hc
    subst h
    go_wp2_with fail
    go_ret
    exact⟨rfl,rfl⟩
   ·have t:((s[j].toNat:Int) == (c.toNat:Int))=false:=by rw[beq_eq_false_iff_ne];intro e;apply hc;apply UInt8.toNat_inj.1;omega
    have h:Hid ((s.data.toList.drop (j+1)).contains c=r):=by show _=_;have:=hH.out;rw[zbn hlt,beq_eq_false_iff_ne.2 hc,Bool.false_or] at this;exact this
    clear hc
    go_wp2_with fail
    go_round
    case rel=>exact⟨j+1,by omega,by go_num,h⟩
    case measure=>simp[intOf];omega
  ·have h:r=false:=by have:=hH.out;rw[J6 s j (by omega)] at this;simpa using this.symm
   subst h
   go_wp2_with fail
   go_ret
   exact⟨rfl,rfl⟩
theorem zfN {s:ByteArray} {j:Nat} (hj:j<s.size) (h:s[j]≠10):Thk.Z4 (s.data.toList.drop j)=Thk.Z4 (s.data.toList.drop (j+1))+1:=by
 rw[Q6 s j hj];simp[Thk.Z4,h]
theorem zfQ {s:ByteArray} {j:Nat} (hj:j<s.size) (h:s[j]=10):Thk.Z4 (s.data.toList.drop j)=0:=by
 rw[Q6 s j hj];simp[Thk.Z4,h]
theorem zfO {s:ByteArray} {j:Nat} (hj:s.size≤j):Thk.Z4 (s.data.toList.drop j)=0:=by
 rw[J6 s j hj];rfl
theorem zhq (s:ByteArray) (k r:Nat) (w:World) (hk:k≤s.size) (hs:s.size≤2000) (hr:Hid (k+Thk.blk false (s.data.toList.drop k)=r)) :
  Calls Tryz.prog 136 #[.string s,.int .i64 k] w fun e w'=>e = .returned (.int .i64 r)∧w'=w:=by
 go_enter Tryz.func136,Tryz.ntmps136
 go_wp2_with fail
 go_loop [1] (fun i=>∃ j:Nat,j≤s.size∧i = .int .i64 j∧Hid (j+Thk.blk false (s.data.toList.drop j)=r)) (fun i=>s.size - (intOf i).toNat)
 case atStart=>exact⟨k,hk,rfl,hr⟩
 case round=>
  obtain⟨j,hj,rfl,hH⟩:=hrel
  by_cases hlt:j<s.size
  ·by_cases hb:Thk.Y9 s[j]=true
   ·have h:=Vq hlt hb hH
    have hq:((s[j].toNat:Int) == 32)=true∨(((s[j].toNat:Int) == 32)=false∧((s[j].toNat:Int) == 9)=true)∨(((s[j].toNat:Int) == 32)=false∧((s[j].toNat:Int) == 9)=false∧((s[j].toNat:Int) == 10)=true)∨(((s[j].toNat:Int) == 32)=false∧((s[j].toNat:Int) == 9)=false∧((s[j].toNat:Int) == 10)=false∧((s[j].toNat:Int) == 13)=true):=by
     simp only[Thk.Y9,Bool.or_eq_true,beq_iff_eq] at hb
     rcases hb with ((h | h) | h) | h<;>rw[h]<;>decide
    clear hb
    rcases hq with q1 | ⟨q1,q2⟩ | ⟨q1,q2,q3⟩ | ⟨q1,q2,q3,q4⟩
    all_goals
     go_wp2_with fail
     go_round
     case rel=>exact⟨j+1,by omega,by go_num,h⟩
     case measure=>simp[intOf];omega
   ·have hb:Thk.Y9 s[j]=false:=by simpa using hb
    have hq:((s[j].toNat:Int) == 32)=false∧((s[j].toNat:Int) == 9)=false∧((s[j].toNat:Int) == 10)=false∧((s[j].toNat:Int) == 13)=false:=by
     simp only[Thk.Y9,Bool.or_eq_false_iff,beq_eq_false_iff_ne] at hb
     obtain⟨⟨⟨h1,h2⟩,h3⟩,h4⟩:=hb
     exact⟨Q3 h1 32 rfl,Q3 h2 9 rfl,Q3 h3 10 rfl,Q3 h4 13 rfl⟩
    obtain⟨q1,q2,q3,q4⟩:=hq
    by_cases hc:s[j]=35
    ·have q5:=QW hc 35 rfl
     have h:=zb4 hlt hc hH
     obtain⟨h1,h2,h3⟩:=h
     obtain⟨L,hL⟩:∃ L,L=Thk.Z4 (s.data.toList.drop j):=⟨_,rfl⟩
     rw[← hL] at h1 h2 h3
     have HL:Hid (j+L=j+Thk.Z4 (s.data.toList.drop j)):=by rw[hL];rfl
     clear hL hc hb
     go_wp2_with fail
     go_loop [1] (fun i=>∃ m:Nat,j≤m∧m≤j+L∧i = .int .i64 m∧Hid (j+L=m+Thk.Z4 (s.data.toList.drop m))) (fun i=>s.size - (intOf i).toNat)
     case atStart=>exact⟨j,Nat.le_refl _,by omega,rfl,HL⟩
     case round=>
      obtain⟨m,hm0,hm,rfl,hM⟩:=hrel
      by_cases hltm:m<s.size
      ·by_cases hn:s[m]=10
       ·have t:((s[m].toNat:Int) != 10)=false:=by rw[hn];rfl
        have e:m=j+L:=by have:=hM.out;rw[zfQ hltm hn] at this;omega
        have HE:Hid (m=j+L):=e
        clear hn e
        go_wp2_with fail
        go_round
        case rel=>exact⟨j+L,h1,by rw[HE.out],h3⟩
        case measure=>have:=HE.out;simp[intOf];omega
       ·have t:((s[m].toNat:Int) != 10)=true:=by rw[bne_iff_ne];intro e;apply hn;apply UInt8.toNat_inj.1;rw[show (10:UInt8).toNat=10 from rfl];omega
        have e:Hid (j+L=(m+1)+Thk.Z4 (s.data.toList.drop (m+1))):=by have:=hM.out;rw[zfN hltm hn] at this;show _=_;omega
        clear hn
        go_wp2_with fail
        go_round
        case rel=>exact⟨m+1,by omega,by have:=e.out;omega,by go_num,e⟩
        case measure=>simp[intOf];omega
      ·have e:m=j+L:=by have:=hM.out;rw[zfO (by omega)] at this;omega
       have HE:Hid (m=j+L):=e
       clear e
       go_wp2_with fail
       go_round
       case rel=>exact⟨j+L,h1,by rw[HE.out],h3⟩
       case measure=>have:=HE.out;simp[intOf];omega
    ·have q5:=Q3 hc 35 rfl
     have h:=zb5 hlt hb hc hH
     clear hc hb
     subst h
     go_wp2_with fail
     go_ret
     exact⟨rfl,rfl⟩
  ·have h:j=r:=by have:=hH.out;rw[J6 s j (by omega)] at this;simpa [Thk.blk] using this
   subst h
   go_wp2_with fail
   go_ret
   exact⟨rfl,rfl⟩
theorem zhu (s mk es:ByteArray) (k:Nat) (w:World) (hk:k≤s.size) (hs:s.size≤2000) (he:es.data.toList=110::116::92::mk.data.toList) (hm:mk.size≤10) (hes:es.size≤20) :
  Calls Tryz.prog 167 #[.string s,.int .i64 k,.string mk,.string es] w fun e w'=>e = .returned (chv (Thk.Zh mk.data.toList (s.data.toList.drop k)))∧w'=w:=by
 by_cases hlt:k<s.size
 ·rw[Q6 s k hlt]
  simp only[Thk.Zh]
  by_cases h1:s[k]=92
  ·rw[if_pos h1]
   have t0:((s[k].toNat:Int) == 10)=false:=by rw[h1];rfl
   have t1:((s[k].toNat:Int) != 92)=false:=by rw[h1];rfl
   clear h1
   by_cases hlt2:k+1<s.size
   ·rw[Q6 s (k+1) hlt2]
    simp only[Thk.YP]
    have hcon:es.data.toList.contains s[k+1]=(s[k+1] == 110 || (s[k+1] == 116 || (s[k+1] == 92 || mk.data.toList.contains s[k+1]))):=by rw[he];simp only[List.contains_cons]
    by_cases h2:s[k+1]=110
    ·rw[if_pos h2]
     have t2:=QW h2 110 rfl
     have hc:=fun w=>VO es s[k+1] true w (by omega) (by rw[hcon,h2];simp)
     clear h2 hcon
     go_enter Tryz.func167,Tryz.ntmps167
     go_wp2_with (go_at_call 137;refine (hc _).mono ?_;rintro e w' ⟨rfl,rfl⟩)
     go_ret2
     exact⟨rfl,rfl⟩
    ·rw[if_neg h2]
     have t2:=Q3 h2 110 rfl
     by_cases h3:s[k+1]=116
     ·rw[if_pos h3]
      have t3:=QW h3 116 rfl
      have hc:=fun w=>VO es s[k+1] true w (by omega) (by rw[hcon,h3];simp)
      clear h2 h3 hcon
      go_enter Tryz.func167,Tryz.ntmps167
      go_wp2_with (go_at_call 137;refine (hc _).mono ?_;rintro e w' ⟨rfl,rfl⟩)
      go_ret2
      exact⟨rfl,rfl⟩
     ·rw[if_neg h3]
      have t3:=Q3 h3 116 rfl
      have hcon':es.data.toList.contains s[k+1]=(s[k+1] == 92 || mk.data.toList.contains s[k+1]):=by rw[hcon,beq_eq_false_iff_ne.2 h2,beq_eq_false_iff_ne.2 h3,Bool.false_or,Bool.false_or]
      obtain⟨r,hr⟩:∃ r,r=(s[k+1] == 92 || mk.data.toList.contains s[k+1]):=⟨_,rfl⟩
      have hc:=fun w=>VO es s[k+1] r w (by omega) (by rw[hcon',hr])
      have hif:(s[k+1]=92 || mk.data.toList.contains s[k+1])=r:=by rw[hr];congr 1
      clear h2 h3 hcon hcon' hr
      rw[hif]
      clear hif
      cases r with
      | true=>
       rw[if_pos rfl]
       go_enter Tryz.func167,Tryz.ntmps167
       go_wp2_with (go_at_call 137;refine (hc _).mono ?_;rintro e w' ⟨rfl,rfl⟩)
       go_ret2
       exact⟨rfl,rfl⟩
      | false=>
       rw[if_neg (by simp)]
       go_enter Tryz.func167,Tryz.ntmps167
       go_wp2_with (go_at_call 137;refine (hc _).mono ?_;rintro e w' ⟨rfl,rfl⟩)
       go_ret2
       exact⟨rfl,rfl⟩
   ·rw[J6 s (k+1) (by omega)]
    go_enter Tryz.func167,Tryz.ntmps167
    go_wp2_with fail
    go_ret2
    exact⟨rfl,rfl⟩
  ·rw[if_neg h1]
   have t1:((s[k].toNat:Int) != 92)=true:=by rw[bne_iff_ne];intro e;apply h1;apply UInt8.toNat_inj.1;rw[show (92:UInt8).toNat=92 from rfl];omega
   clear h1
   by_cases h2:s[k]=10
   ·have t2:=QW h2 10 rfl
    rw[if_pos (by rw[h2];simp)]
    clear h2
    go_enter Tryz.func167,Tryz.ntmps167
    go_wp2_with fail
    go_ret2
    exact⟨rfl,rfl⟩
   ·have t2:=Q3 h2 10 rfl
    obtain⟨r,hr⟩:∃ r,r=mk.data.toList.contains s[k]:=⟨_,rfl⟩
    have hc:=fun w=>VO mk s[k] r w (by omega) hr.symm
    have hif:(decide (s[k]=10) || mk.data.toList.contains s[k])=r:=by rw[hr];simp[h2]
    rw[hif]
    clear hif hr h2
    cases r with
    | true=>
     rw[if_pos rfl]
     go_enter Tryz.func167,Tryz.ntmps167
     go_wp2_with (go_at_call 137;refine (hc _).mono ?_;rintro e w' ⟨rfl,rfl⟩)
     go_ret2
     exact⟨rfl,rfl⟩
    | false=>
     rw[if_neg (by simp)]
     go_enter Tryz.func167,Tryz.ntmps167
     go_wp2_with (go_at_call 137;refine (hc _).mono ?_;rintro e w' ⟨rfl,rfl⟩)
     go_ret2
     exact⟨rfl,rfl⟩
 ·rw[J6 s k (by omega)]
  go_enter Tryz.func167,Tryz.ntmps167
  go_wp2_with fail
  go_ret2
  exact⟨rfl,rfl⟩
theorem zak (s mk es:ByteArray) (k:Nat) (w:World) (hk:k≤s.size) (hs:s.size≤2000) (he:es.data.toList=110::116::92::mk.data.toList) (hm:mk.size≤10) (hes:es.size≤20) {o:Option (UInt8 × Nat)} (h:Thk.Zh mk.data.toList (s.data.toList.drop k)=o) :
  Calls Tryz.prog 167 #[.string s,.int .i64 k,.string mk,.string es] w fun e w'=>e = .returned (chv o)∧w'=w:=h ▸ zhu s mk es k w hk hs he hm hes
theorem Tryz.infoItem:(Tryz.prog.info? 303).map (fun i=>(i.zero,i.size,i.bytes))=some (some (.agg #[.int .u8 0,.int .u8 0]),2,2):=by kernel_rfl
def ZS:Thk.TK→Nat
 | .name=>1
 | .arrow=>2
 | .lit=>3
 | .cls=>4
 | .sign _=>5
 | .fin=>6
 | .bad=>7
def Z1 (t:Thk.Tok):List UInt8:=
 match t.kind with
 | .name=>t.text
 | .sign c=>[c]
 | _=>[]
def zz (t:Thk.Tok):Nat:=if t.kind.last then 0 else t.place+t.size
def dup (c:UInt8):Thk.zR:=(c,c)
def zr (t:Thk.Tok):List Thk.zR:=
 match t.kind with
 | .lit=>t.text.map dup
 | .cls=>t.spans
 | _=>[]
def ZN (t:Thk.Tok) (v:Value):Value:=.agg #[.int .i64 (ZS t.kind),.int .i64 t.place,.int .i64 (zz t),.string ⟨(Z1 t).toArray⟩,v]
abbrev JV (k p e:Int) (s:ByteArray) (v:Value):Obj:=.cells #[.int .i64 k,.int .i64 p,.int .i64 e,.string s,v] 206
def Items (w:World) (B:Nat) (v:Value) (xs:List Thk.zR):Prop:=w.ownsRow B 303 2 v xs.length (xs.flatMap ZO)
theorem za {w:World} {b:Nat} {o:Obj} (h:w.heap[b]? = some o):b<w.heap.size:=by
 rcases Nat.lt_or_ge b w.heap.size with h' | h'
 ·exact h'
 ·rw[Array.getElem?_eq_none h'] at h;cases h
structure zaQ (s:ByteArray) (k:Nat) (X:Thk.z7 × Nat) (w:World) (j:Nat) (xs:List UInt8) (v:Value) (wr:World):Prop where
 le:k+1+j≤s.size
 len:xs.length≤j
 own:Items wr (w.heap.size+2) v (xs.map dup)
 tok:wr.heap[w.heap.size+1]? = some (JV 3 k 0 ⟨#[]⟩ v)
 res:wr.heap[w.heap.size]? = some (JV 0 0 0 ⟨#[]⟩ (.slice none 0 0))
 below:Below w.heap.size w wr
 size:w.heap.size+2≤wr.heap.size
 all:X=(xs++(Thk.Qc [39] (s.data.toList.drop (k+1+j))).1,j+(Thk.Qc [39] (s.data.toList.drop (k+1+j))).2)
theorem Yf (k:Nat):ZN { Thk.zB with place:=k } (.slice none 0 0) = .agg #[.int .i64 7,.int .i64 k,.int .i64 0,.string ⟨#[]⟩,.slice none 0 0]:=rfl
theorem Jo {w:World} {b o:Nat} {cs:Array Value} {e:TypeId} {fr:Nat × Nat} (h:w.heap[b]? = some (.cells cs e fr)) (u:Value):(w.setCell ⟨b,o,none⟩ u).heap[b]? = some (.cells (cs.setIfInBounds o u) e fr):=by
 simp[World.setCell,Array.getElem?_modify,h]
theorem ZL {w:World} {b o:Nat} {u:Value} {base:Nat} {e:TypeId} {size:Nat} {v:Value} {n:Nat} {xs:List Value} (h:w.ownsRow base e size v n xs) (hb:b<base):(w.setCell ⟨b,o,none⟩ u).ownsRow base e size v n xs:=ownsRow_setCell_below h hb u
theorem zhW (s:ByteArray) (k:Nat) (w:World) (hs:s.size≤2000) (hk:k<s.size) :
  Calls Tryz.prog 138 #[.string s,.int .i64 k] w fun e w'=>∃ v,
   e = .returned (ZN { Thk.Qv (s.data.toList.drop (k+1)) with place:=k } v)∧Below w.heap.size w w'∧Items w' w.heap.size v (zr (Thk.Qv (s.data.toList.drop (k+1)))):=by
 obtain⟨X,hX⟩:∃ X,X=Thk.Qc [39] (s.data.toList.drop (k+1)):=⟨_,rfl⟩
 obtain⟨T,hT⟩:∃ T,T=Thk.Qv (s.data.toList.drop (k+1)):=⟨_,rfl⟩
 obtain⟨C,hC⟩:∃ C,C=Thk.ZX (s.data.toList.drop (k+1)) X.2 39 X.1.length:=⟨_,rfl⟩
 rw[← hT]
 have HT:Hid (T=if C then ⟨.lit,0,X.2+2,X.1,[]⟩ else Thk.zB):=by rw[hC,hX];exact hT
 have HX:Hid (X=Thk.Qc [39] (s.data.toList.drop (k+1))):=hX
 have HC:Hid (C=Thk.ZX (s.data.toList.drop (k+1)) X.2 39 X.1.length):=hC
 clear hX hT hC
 obtain⟨i0,hi,hz0,hz1,hz2⟩:=info_parts Tryz.infoItem
 go_enter Tryz.func138,Tryz.ntmps138
 go_wp2_with fail
 go_loopg [6,7,8] (s.size - (k+1)) (fun m i _ _ wr=>∃ (j:Nat) (xs:List UInt8) (v:Value),m=s.size - (k+1+j)∧i = .int .i64 ↑(k+1+j)∧Hid (zaQ s k X w j xs v wr))
 case atStart=>
  refine⟨0,[],.slice none 0 0,rfl,by go_num,?_⟩
  refine⟨by omega,by simp,World.ownsRow_nil _ _ _ _,?_,?_,?_,by simp,?_⟩
  ·rw[show w.heap.size+1=(w.alloc (JV 0 0 0 ⟨#[]⟩ (.slice none 0 0))).heap.size from by simp];exact heap_alloc_new _ _
  ·rw[zm _ _ (by simp)];exact heap_alloc_new _ _
  ·exact ((Below.refl _ _).alloc (Nat.le_refl _) _).alloc (by simp) _
  ·rw[HX.out];simp
 case round=>
  obtain⟨j,xs,v,rfl,rfl,hR⟩:=hrel
  have hR1:=hR.out.le
  have hq:=z8 hR.out.tok
  have hf:=zi hR.out.tok
  have hqr:=z8 hR.out.res
  have hfr:=zi hR.out.res
  have hown:wr.ownsRow (w.heap.size+2) 303 2 v (xs.map dup).length ((xs.map dup).flatMap ZO):=hR.out.own
  have hxl:=hR.out.len
  have hsz:=hR.out.size
  obtain⟨va,vc,hv⟩:=zl hown
  rw[List.length_map] at hv
  subst hv
  by_cases hgo:∃ h:k+1+j<s.size,s[k+1+j]≠39
  ·obtain⟨hlt,hne⟩:=hgo
   have tq:((s[k+1+j].toNat:Int) != 39)=true:=by rw[bne_iff_ne];intro e;apply hne;apply UInt8.toNat_inj.1;rw[show (39:UInt8).toNat=39 from rfl];omega
   cases hc:Thk.Zh [39] (s.data.toList.drop (k+1+j)) with
   | some p=>
    obtain⟨c,n⟩:=p
    have HCC:Hid (Thk.Zh [39] (s.data.toList.drop (k+1+j))=some (c,n)):=hc
    have hcall:=zak s ⟨#[39]⟩ ⟨#[110,116,92,39]⟩ (k+1+j) wr (by omega) hs rfl (by decide) (by decide) hc
    rw[KF] at hcall
    clear hc
    have hpos:=(Jg HCC.out).1
    have hle:=(Jg HCC.out).2
    rw[List.length_drop,show s.data.toList.length=s.size from rfl] at hle
    have ht:((n:Int) == 0)=false:=beq_eq_false_iff_ne.2 (by omega)
    clear hne
    go_wp2_with fail
    refine hcall.mono ?_
    rintro e w' ⟨rfl,rfl⟩
    go_wp2_with (first | (at_builtin;refine wpList_append_lies _ rfl _ _ 147 rfl (w.heap.size+2) 303 i0 _ 2 2 Tryz.underlying147 hi hz0 hz1 hz2 rfl (by decide) _ _ _ rfl (hown.alloc _) ⟨w'.heap.size,0,none⟩ 1 1 (ZO (dup c)) rfl rfl ?c1 ?c2 (by decide) ?c3 ?c4 ?c5 _ rfl ?_))
    case c1=>exact KC _ _ _ _
    case c2=>intro u hu;simp[ZO,dup] at hu;subst hu;rfl
    case c3=>simp;unfold maxLen;omega
    case c4=>simp;omega
    case c5=>simp;omega
    intro g cap w2 hown' hgrow hat hgl
    have hz2':=hgrow.size
    simp at hz2'
    have ht2:w2.heap[w.heap.size+1]? = some (JV 3 k 0 ⟨#[]⟩ (.slice va xs.length vc)):=by
     rw[hgrow.block _ (by simp;omega) (fun e=>by have:=(hown.lt _ e.symm).1;omega),zm _ _ (by omega)];exact hR.out.tok
    have hr2:w2.heap[w.heap.size]? = some (JV 0 0 0 ⟨#[]⟩ (.slice none 0 0)):=by
     rw[hgrow.block _ (by simp;omega) (fun e=>by have:=(hown.lt _ e.symm).1;omega),zm _ _ (by omega)];exact hR.out.res
    have hq2:=z8 ht2
    have hf2:=zi ht2
    have hN:Hid (zaQ s k X w (j+n) (xs++[c]) (.slice (some ⟨g,0,none⟩) (xs.length+1) cap) (w2.setCell ⟨w.heap.size+1,4,none⟩ (.slice (some ⟨g,0,none⟩) (xs.length+1) cap))):=by
     refine⟨by omega,by simp;omega,?_,?_,?_,?_,by simp;omega,?_⟩
     ·refine ZL ?_ (by omega)
      simpa using hown'
     ·rw[Jo ht2];rfl
     ·rw[Below.heap_setCell _ _ _ _ (by simp)];exact hr2
     ·exact ((hR.out.below.alloc (by omega) _).grown hgrow (by simp;omega) (fun b hb=>by have:=(hown.lt b hb).1;omega)).setCell (by simp) _
     ·rw[hR.out.all,qK HCC.out,List.drop_drop,show k+1+j+n=k+1+(j+n) from by omega]
      simp
      omega
    clear hown' hgrow hown hR hq hf hqr hfr ht2 hr2 hcall
    go_wp2_with fail
    go_roundg (s.size - (k+1+(j+n)))
    case measure=>omega
    case rel=>exact⟨j+n,xs++[c],_,rfl,by go_num,hN⟩
   | none=>
    have hcall:=zak s ⟨#[39]⟩ ⟨#[110,116,92,39]⟩ (k+1+j) wr (by omega) hs rfl (by decide) (by decide) hc
    rw[KE] at hcall
    have hD:X=(xs,j):=by rw[hR.out.all,Um hc];simp
    clear hc
    subst hD
    have hCf:C=false:=by
     rw[HC.out];unfold Thk.ZX
     simp only[]
     rw[Yl s (k+1) j hlt]
     simp[hne]
    subst hCf
    have e1:=HT.out
    simp at e1
    subst e1
    have HB:=hR.out.below
    clear hne HT HC HX hR hown hq hf
    go_wp2_with fail
    refine hcall.mono ?_
    rintro e w' ⟨rfl,rfl⟩
    go_wp2_with fail
    refine bodyPost_ret (v:=ZN { Thk.zB with place:=k } (.slice none 0 0)) (by simp[results,Tryz.results138,go_sem,Yf,hqr,show w.heap.size<w'.heap.size from by omega]) rfl ⟨.slice none 0 0,rfl,?_,World.ownsRow_nil _ _ _ _⟩
    exact ((((HB.setCell (Nat.le_refl _) _).setCell (Nat.le_refl _) _).setCell (Nat.le_refl _) _).setCell (Nat.le_refl _) _).setCell (Nat.le_refl _) _
  ·have hc:Thk.Zh [39] (s.data.toList.drop (k+1+j))=none:=by
    by_cases hlt:k+1+j<s.size
    ·have h39:s[k+1+j]=39:=by
      by_cases h:s[k+1+j]=39
      ·exact h
      ·exact absurd ⟨hlt,h⟩ hgo
     rw[Q6 s _ hlt,h39];rfl
    ·rw[J6 s _ (by omega)];rfl
   have hD:X=(xs,j):=by rw[hR.out.all,Um hc];simp
   clear hc
   subst hD
   have HB:=hR.out.below
   by_cases hlt:k+1+j<s.size
   ·have h39:s[k+1+j]=39:=by
     by_cases h:s[k+1+j]=39
     ·exact h
     ·exact absurd ⟨hlt,h⟩ hgo
    have tq:((s[k+1+j].toNat:Int) != 39)=false:=by rw[h39];rfl
    have hCe:C=(decide (1≤xs.length) && decide (xs.length≤20)):=by
     rw[HC.out];unfold Thk.ZX
     simp only[]
     rw[Yl s (k+1) j hlt,h39]
     simp
    clear hgo h39
    by_cases h1 : 1≤xs.length
    ·by_cases h20:xs.length≤20
     ·have hCt:C=true:=by rw[hCe];simp[h1,h20]
      subst hCt
      have e1:=HT.out
      simp only[if_true] at e1
      subst e1
      have HI:Hid (Items wr (w.heap.size+2) (.slice va xs.length vc) (xs.map dup)):=hR.out.own
      clear HT HC HX hR hown hCe
      go_wp2_with fail
      refine bodyPost_ret (v:=.agg #[.int .i64 3,.int .i64 k,.int .i64 ↑(k+(j+2)),.string ⟨#[]⟩,.slice va xs.length vc]) (by simp[results,Tryz.results138,go_sem,hqr,hq,show w.heap.size<wr.heap.size from by omega];omega) rfl ⟨.slice va xs.length vc,rfl,?_,?_⟩
      ·exact (((((HB.setCell (by simp) _).setCell (Nat.le_refl _) _).setCell (Nat.le_refl _) _).setCell (Nat.le_refl _) _).setCell (Nat.le_refl _) _).setCell (Nat.le_refl _) _
      ·have hI:=HI.out
       refine Zn (ZL (ZL (ZL (ZL (ZL (ZL hI ?_) ?_) ?_) ?_) ?_) ?_) (by omega:w.heap.size≤w.heap.size+2)<;>omega
     ·have hCf:C=false:=by rw[hCe];simp[h20]
      subst hCf
      have e1:=HT.out
      simp at e1
      subst e1
      clear HT HC HX hR hown hCe
      go_wp2_with fail
      refine bodyPost_ret (v:=ZN { Thk.zB with place:=k } (.slice none 0 0)) (by simp[results,Tryz.results138,go_sem,Yf,hqr,show w.heap.size<wr.heap.size from by omega]) rfl ⟨.slice none 0 0,rfl,?_,World.ownsRow_nil _ _ _ _⟩
      exact ((((HB.setCell (Nat.le_refl _) _).setCell (Nat.le_refl _) _).setCell (Nat.le_refl _) _).setCell (Nat.le_refl _) _).setCell (Nat.le_refl _) _
    ·have hCf:C=false:=by rw[hCe];simp[h1]
     subst hCf
     have e1:=HT.out
     simp at e1
     subst e1
     clear HT HC HX hR hown hCe
     go_wp2_with fail
     refine bodyPost_ret (v:=ZN { Thk.zB with place:=k } (.slice none 0 0)) (by simp[results,Tryz.results138,go_sem,Yf,hqr,show w.heap.size<wr.heap.size from by omega]) rfl ⟨.slice none 0 0,rfl,?_,World.ownsRow_nil _ _ _ _⟩
     exact ((((HB.setCell (Nat.le_refl _) _).setCell (Nat.le_refl _) _).setCell (Nat.le_refl _) _).setCell (Nat.le_refl _) _).setCell (Nat.le_refl _) _
   ·have hCf:C=false:=by
     rw[HC.out];unfold Thk.ZX
     simp only[]
     rw[Vz s (k+1) j (by omega)]
     rfl
    subst hCf
    have e1:=HT.out
    simp at e1
    subst e1
    clear HT HC HX hR hown hgo
    go_wp2_with fail
    refine bodyPost_ret (v:=ZN { Thk.zB with place:=k } (.slice none 0 0)) (by simp[results,Tryz.results138,go_sem,Yf,hqr,show w.heap.size<wr.heap.size from by omega]) rfl ⟨.slice none 0 0,rfl,?_,World.ownsRow_nil _ _ _ _⟩
    exact ((((HB.setCell (Nat.le_refl _) _).setCell (Nat.le_refl _) _).setCell (Nat.le_refl _) _).setCell (Nat.le_refl _) _).setCell (Nat.le_refl _) _
end Go.Proofs.YtiganlkabilblaaGreatDoor
