import Derived.Test.YtiganlkabilblaaGreatDoorVL17
import Derived.BigQuiet
set_option linter.all false
set_option maxHeartbeats 64000000
set_option maxRecDepth 100000
namespace Go.Proofs.YtiganlkabilblaaGreatDoor
open Go.RowKit Thk
attribute [local go_sem ↓] Go.wp_at_zero Go.wp_at_succ
theorem zfw (p l:List UInt8):p.isPrefixOf l=(l.take p.length == p):=by
 induction p generalizing l with
 | nil=>simp
 | cons a p ih=>
  cases l with
  | nil=>simp
  | cons b l=>
   simp only[List.isPrefixOf,List.length_cons,List.take_succ_cons,ih]
   by_cases h:a=b
   ·subst h;simp
   ·have h':¬ b=a:=fun e=>h e.symm
    have e1:(a == b)=false:=by simp[h]
    have e2:(b == a)=false:=by simp[h']
    simp only[e1,Bool.false_and]
    show false=((b::l.take p.length) == (a::p))
    simp[e2]
theorem zfd (s p:ByteArray) (w:World) (hs:s.size≤1000000) (hp:p.size≤1000000) :
  Calls Tryz.prog 156 #[.string s,.string p] w fun e w'=>e = .returned (.bool (p.data.toList.isPrefixOf s.data.toList))∧w'=w:=by
 have hpl:p.data.toList.length=p.size:=rfl
 rw[zfw,hpl]
 by_cases h:p.size≤s.size
 ·have e1:(s.extract 0 p.size).toList=s.data.toList.take p.size:=by
   have:=Vx s 0 p.size
   rw[Nat.zero_add] at this
   rw[this]
   simp[ByteArray.toList_eq]
  have hd:(p.size:Int)≤s.size:=by omega
  go_enter Tryz.func156,Tryz.ntmps156
  go_wp2
  go_ret
  refine⟨?_,rfl⟩
  show Ending.returned (Value.bool (List.take p.size s.data.toList == p.toList))=_
  rw[ByteArray.toList_eq]
 ·have e1:(s.data.toList.take p.size == p.data.toList)=false:=by
   rw[beq_eq_false_iff_ne];intro hh
   have:=congrArg List.length hh
   have hl:s.data.toList.length=s.size:=rfl
   simp[hl,hpl] at this
   omega
  rw[e1]
  have hd:¬ (p.size:Int)≤s.size:=by omega
  go_enter Tryz.func156,Tryz.ntmps156
  go_wp2
  go_ret
  exact⟨rfl,rfl⟩
theorem zfl {wM:World} {mb tb:Nat} {N:List Nd} {bx:List (Nat × Nat × Nat)} {rules:List Nat} {vr:Value} {s:ByteArray} (M:Mde wM mb N bx rules vr) (b:z7) (bm bt:Nat) (hbm:wM.heap[bm]? = some (zh (z9 mb) 113)) (hbt:wM.heap[bt]? = some (zh (.string ⟨b.toArray⟩) 9)) (hbl:b.length≤20) (hsz:s.size≤1000000) (k:Nat) (hk:k≤s.size) (w:World) (h:MS wM mb tb N rules vr s .nil w) :
  Calls Tryz.prog 216 #[.int .i64 k,z9 bm,z9 bt] w (Ye wM mb tb N rules vr s .nil (Ya s.data.toList k b) w):=by
 have p1:=h.box M hbm
 have q1:=z8 p1
 have l1:=za p1
 have p2:=h.box M hbt
 have q2:=z8 p2
 have l2:=za p2
 have q3:w.cell? ⟨mb,1,none⟩=some (.string s):=z8 h.blk 1
 have l3:=zd h.blk
 have HH:=z6 (And.intro h.size (And.intro h.tlt h.mlt))
 have HM:=z6 h
 have hex:=UH s k
 have hbz:(ByteArray.mk b.toArray).size=b.length:=by show b.toArray.size=_;simp
 have HP:∀ W,Calls Tryz.prog 156 #[.string (s.extract k s.size),.string ⟨b.toArray⟩] W fun e w'=>e = .returned (.bool (b.isPrefixOf (s.data.toList.drop k)))∧w'=W:=fun W=>by
  have hez:(s.extract k s.size).size=s.size - k:=by simp
  have:=zfd (s.extract k s.size) ⟨b.toArray⟩ W (by omega) (by rw[hbz];omega)
  rw[hex] at this
  simpa using this
 have hk':(k:Int)≤s.size:=by omega
 clear h hbm hbt M p1 p2 hex
 unfold Ya
 cases hpre:b.isPrefixOf (s.data.toList.drop k) with
 | true=>
  rw[hpre] at HP
  have HPP:=z6 HP
  clear HP
  simp only[if_true]
  go_enter Tryz.func216,Tryz.ntmps216
  go_wp2_with fail
  go_region_with (go_at_call 156;refine (HPP.out _).mono ?_;rintro e w1 ⟨rfl,rfl⟩)
  all_goals go_wp2_with fail
  all_goals
   refine bodyPost_ret (results_cell_row rfl _ _ w.heap.size _ _ _ _ rfl (zk w _) Tryz.underlying229 rfl (by kernel_rfl)) rfl ?_
   exact⟨by simp[zN],HM.out.below (zc w _).drew,KpM.of_below (zc w _).drew⟩
 | false=>
  rw[hpre] at HP
  have HPP:=z6 HP
  clear HP
  simp only[Bool.false_eq_true,if_false]
  go_enter Tryz.func216,Tryz.ntmps216
  go_wp2_with fail
  go_region_with (go_at_call 156;refine (HPP.out _).mono ?_;rintro e w1 ⟨rfl,rfl⟩)
  all_goals go_wp2_with fail
  all_goals
   refine bodyPost_ret (results_cell_row rfl _ _ w.heap.size _ _ _ _ rfl (zk w _) Tryz.underlying229 rfl (by kernel_rfl)) rfl ?_
   exact⟨by simp[zN],HM.out.below (zc w _).drew,KpM.of_below (zc w _).drew⟩
theorem zdN (w:World) (c:Value):Calls Tryz.prog 211 #[c] w fun e w'=>e = .returned (.bool true)∧Below w.heap.size w w':=by
 go_enter Tryz.func211,Tryz.ntmps211
 go_wp2_with fail
 go_ret
 exact⟨rfl,Below.refl _ _⟩
theorem zjy (w:World) (lo hi b:UInt8) (bb:Nat) (h:w.heap[bb]? = some (zh (.int .u8 b.toNat) 5)) :
  Calls Tryz.prog 219 #[.agg #[.int .u8 lo.toNat,.int .u8 hi.toNat],z9 bb] w fun e w'=>e = .returned (.bool (decide (lo≤b) && decide (b≤hi)))∧Below w.heap.size w w':=by
 have q:=z8 h
 have l:=za h
 clear h
 by_cases h1:lo≤b
 ·have d1:(lo.toNat:Int)≤(b.toNat:Int):=by have:=UInt8.le_iff_toNat_le.mp h1;omega
  by_cases h2:b≤hi
  ·have d2:(b.toNat:Int)≤(hi.toNat:Int):=by have:=UInt8.le_iff_toNat_le.mp h2;omega
   have hr:(decide (lo≤b) && decide (b≤hi))=true:=by simp[h1,h2]
   rw[hr]
   have e1:decide ((lo.toNat:Int)≤(b.toNat:Int))=true:=decide_eq_true d1
   have e2:decide ((b.toNat:Int)≤(hi.toNat:Int))=true:=decide_eq_true d2
   clear h1 h2 hr
   go_enter Tryz.func219,Tryz.ntmps219
   go_wp2_with fail
   go_ret
   exact⟨rfl,zc _ _⟩
  ·have d2:¬ (b.toNat:Int)≤(hi.toNat:Int):=by intro e;exact h2 (UInt8.le_iff_toNat_le.mpr (by omega))
   have hr:(decide (lo≤b) && decide (b≤hi))=false:=by simp[h2]
   rw[hr]
   have e1:decide ((lo.toNat:Int)≤(b.toNat:Int))=true:=decide_eq_true d1
   have e2:decide ((b.toNat:Int)≤(hi.toNat:Int))=false:=decide_eq_false d2
   have e3:decide (b.toNat≤hi.toNat)=false:=decide_eq_false (by omega)
   clear h1 h2 hr
   go_enter Tryz.func219,Tryz.ntmps219
   go_wp2_with fail
   go_ret
   exact⟨rfl,zc _ _⟩
 ·have d1:¬ (lo.toNat:Int)≤(b.toNat:Int):=by intro e;exact h1 (UInt8.le_iff_toNat_le.mpr (by omega))
  have hr:(decide (lo≤b) && decide (b≤hi))=false:=by simp[h1]
  rw[hr]
  have e1:decide ((lo.toNat:Int)≤(b.toNat:Int))=false:=decide_eq_false d1
  have e3:decide (lo.toNat≤b.toNat)=false:=decide_eq_false (by omega)
  clear h1 hr
  go_enter Tryz.func219,Tryz.ntmps219
  go_wp2_with fail
  go_ret
  exact⟨rfl,zc _ _⟩
theorem zfi (l:List zR) (b:UInt8) (i:Nat) (h:i<l.length):Q7 (l.drop i) b=((decide (l[i].1≤b) && decide (b≤l[i].2)) || Q7 (l.drop (i+1)) b):=by
 rw[List.drop_eq_getElem_cons h]
 rfl
theorem zfr (w:World) (u:Value) (l:List zR) (b:UInt8) (bb:Nat) (hs:Qr w 0 u l) (hl:l.length≤100000) (h:w.heap[bb]? = some (zh (.int .u8 b.toNat) 5)) :
  Calls Tryz.prog 222 #[u,.func (.func 219) #[] #[z9 bb]] w fun e w'=>∃ r:Int,e = .returned (.int .i64 r)∧decide (0≤r)=Q7 l b∧Below w.heap.size w w':=by
 obtain⟨ua,uc,rfl⟩:=zl hs
 have HSP:=z6 hs
 have HB:=z6 h
 have HR:∃ R,R=Q7 l b:=⟨_,rfl⟩
 obtain⟨R,hR⟩:=HR
 rw[← hR]
 have HR:Hid (R=Q7 (l.drop 0) b):=z6 hR
 clear hs h hR
 go_enter Tryz.func222,Tryz.ntmps222
 go_wp2_with fail
 go_loopg [8] l.length (fun m v wr=>∃ i:Nat,m=l.length - i∧v = .int .i64 i∧i≤l.length∧Hid (Below w.heap.size w wr)∧Hid (R=Q7 (l.drop i) b))
 case atStart=>exact⟨0,by omega,rfl,by omega,z6 (Below.refl _ _),HR⟩
 case round=>
  obtain⟨i,rfl,rfl,hi,HI,HV⟩:=hrel
  by_cases hlt:i<l.length
  ·have hlt':(i:Int)<l.length:=by omega
   obtain⟨g,rfl,hcs,hgl⟩:=Jk HSP.out (by omega)
   have c0:wr.cell? ⟨g,i * 2,none⟩=some (.int .u8 l[i].1.toNat):=by
    rw[HI.out.cell (p:=⟨g,_,none⟩) hgl,hcs _ (by omega)]
    have:=q6 l i 0 hlt (by decide)
    exact this
   have c1:wr.cell? ⟨g,i * 2+1,none⟩=some (.int .u8 l[i].2.toNat):=by
    rw[HI.out.cell (p:=⟨g,_,none⟩) hgl,hcs _ (by omega)]
    have:=q6 l i 1 hlt (by decide)
    exact this
   have hbw:wr.heap[bb]? = some (zh (.int .u8 b.toNat) 5):=by rw[HI.out.block _ (zd HB.out)];exact HB.out
   have hin:=zjy wr l[i].1 l[i].2 b bb hbw
   have hdr:=HV.out
   rw[zfi l b i hlt] at hdr
   generalize (decide (l[i].1≤b) && decide (b≤l[i].2))=ok at *
   have HIN:=z6 hin
   have HDR:=z6 hdr
   clear hin hdr hbw hcs HV
   cases ok with
   | true=>
    go_wp2_with fail
    refine HIN.out.mono ?_
    rintro _ w1 ⟨rfl,hb1⟩
    have HB1:=z6 (HI.out.trans (hb1.mono HI.out.size))
    clear hb1
    go_wp2_with fail
    go_ret
    refine⟨i,rfl,?_,HB1.out⟩
    have:=HDR.out
    rw[Bool.true_or] at this
    rw[this]
    exact decide_eq_true (by omega)
   | false=>
    go_wp2_with fail
    refine HIN.out.mono ?_
    rintro _ w1 ⟨rfl,hb1⟩
    have HB1:=z6 (HI.out.trans (hb1.mono HI.out.size))
    clear hb1
    go_wp2_with fail
    go_roundg (l.length - (i+1))
    case measure=>omega
    case rel=>exact⟨i+1,rfl,by go_num,by omega,HB1,by have:=HDR.out;rw[Bool.false_or] at this;exact z6 this⟩
  ·have hlt':¬ (i:Int)<l.length:=by omega
   have hR:R=false:=by
    have:=HV.out
    rw[List.drop_eq_nil_of_le (by omega)] at this
    simpa [Q7] using this
   subst hR
   clear HV
   go_wp2_with fail
   go_ret
   exact⟨-1,rfl,by decide,HI.out⟩
theorem zev (w:World) (u:Value) (l:List zR) (b:UInt8) (bb:Nat) (hs:Qr w 0 u l) (hl:l.length≤100000) (h:w.heap[bb]? = some (zh (.int .u8 b.toNat) 5)) :
  Calls Tryz.prog 218 #[u,.func (.func 219) #[] #[z9 bb]] w fun e w'=>e = .returned (.bool (Q7 l b))∧Below w.heap.size w w':=by
 have HI:=z6 (zfr w u l b bb hs hl h)
 clear hs h
 go_enter Tryz.func218,Tryz.ntmps218
 go_wp2_with fail
 refine HI.out.mono ?_
 rintro _ w1 ⟨r,rfl,hr,hb⟩
 go_wp2_with fail
 go_ret
 exact⟨by rw[← hr];rfl,hb⟩
theorem zes (w:World) (u:Value) (l:List zR) (b:UInt8) (bs:Nat) (hu:w.heap[bs]? = some (zh u 235)) (hs:Qr w 0 u l) (hl:l.length≤100000) :
  Calls Tryz.prog 217 #[.int .u8 b.toNat,z9 bs] w fun e w'=>e = .returned (.bool (Q7 l b))∧Below w.heap.size w w':=by
 have q:=z8 hu
 have lq:=za hu
 have hs1:Qr (w.alloc (zh (.int .u8 b.toNat) 5)) 0 u l:=Z6 hs (fun g hg=>zm _ _ (hs.lt g hg).2)
 have HC:=z6 (zev _ u l b w.heap.size hs1 hl (zk w _))
 obtain⟨ua,uc,rfl⟩:=zl hs
 clear hs hs1 hu
 go_enter Tryz.func217,Tryz.ntmps217
 go_wp2_with fail
 refine HC.out.mono ?_
 rintro _ w1 ⟨rfl,hb⟩
 go_wp2_with fail
 go_ret
 exact⟨rfl,(zc w _).trans (hb.mono (by simp))⟩
end Go.Proofs.YtiganlkabilblaaGreatDoor
