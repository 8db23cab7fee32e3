import Derived.Test.YtiganlkabilblaaGreatDoorV21
import Derived.BigQuiet
set_option linter.all false
set_option maxHeartbeats 64000000
set_option maxRecDepth 100000
namespace Go.Proofs.YtiganlkabilblaaGreatDoor
open Go.RowKit Thk
attribute [local go_sem ↓] Go.wp_at_zero Go.wp_at_succ
theorem zeQ (p l:List UInt8):p.isPrefixOf l=(l.take p.length == p):=by
 induction p generalizing l with
 | nil=>simp
 | cons a p ih=>
  cases l with
  | nil=>simp
  | cons b l=>
   simp only[List.isPrefixOf,List.length_cons,List.take_succ_cons,ih]
   by_cases h:a=b
   ·subst h;simp
   ·have h':¬ b=a:=fun e=>h e.symm
    have e1:(a == b)=false:=by simp[h]
    have e2:(b == a)=false:=by simp[h']
    simp only[e1,Bool.false_and]
    show false=((b::l.take p.length) == (a::p))
    simp[e2]
theorem hasPrefix_any (s p:ByteArray) (w:World) (hs:s.size≤1000000) (hp:p.size≤1000000) :
  Calls Tryz.prog 156 #[.string s,.string p] w fun e w'=>e = .returned (.bool (p.data.toList.isPrefixOf s.data.toList))∧w'=w:=by
 have hpl:p.data.toList.length=p.size:=rfl
 rw[zeQ,hpl]
 by_cases h:p.size≤s.size
 ·have e1:(s.extract 0 p.size).toList=s.data.toList.take p.size:=by
   have:=zbM s 0 p.size
   rw[Nat.zero_add] at this
   rw[this]
   simp[ByteArray.toList_eq]
  have hd:(p.size:Int)≤s.size:=by omega
  go_enter Tryz.func156,Tryz.ntmps156
  go_wp2
  go_ret
  refine⟨?_,rfl⟩
  show Ending.returned (Value.bool (List.take p.size s.data.toList == p.toList))=_
  rw[ByteArray.toList_eq]
 ·have e1:(s.data.toList.take p.size == p.data.toList)=false:=by
   rw[beq_eq_false_iff_ne];intro hh
   have:=congrArg List.length hh
   have hl:s.data.toList.length=s.size:=rfl
   simp[hl,hpl] at this
   omega
  rw[e1]
  have hd:¬ (p.size:Int)≤s.size:=by omega
  go_enter Tryz.func156,Tryz.ntmps156
  go_wp2
  go_ret
  exact⟨rfl,rfl⟩
theorem in_lit {wM:World} {mb tb:Nat} {N:List Nd} {bx:List (Nat × Nat × Nat)} {rules:List Nat} {vr:Value} {s:ByteArray} (M:Mde wM mb N bx rules vr) (b:Bytes) (bm bt:Nat) (hbm:wM.heap[bm]? = some (boxO (ptrV mb) 113)) (hbt:wM.heap[bt]? = some (boxO (.string ⟨b.toArray⟩) 9)) (hbl:b.length≤20) (hsz:s.size≤1000000) (k:Nat) (hk:k≤s.size) (w:World) (h:MS wM mb tb N rules vr s .nil w) :
  Calls Tryz.prog 216 #[.int .i64 k,ptrV bm,ptrV bt] w (PostM wM mb tb N rules vr s .nil (zbL s.data.toList k b) w):=by
 have p1:=h.box M hbm
 have q1:=za0 p1
 have l1:=za3 p1
 have p2:=h.box M hbt
 have q2:=za0 p2
 have l2:=za3 p2
 have q3:w.cell? ⟨mb,1,none⟩=some (.string s):=za0 h.blk 1
 have l3:=za7 h.blk
 have HH:=hideP (And.intro h.size (And.intro h.tlt h.mlt))
 have HM:=hideP h
 have hex:=zcm s k
 have hbz:(ByteArray.mk b.toArray).size=b.length:=by show b.toArray.size=_;simp
 have HP:∀ W,Calls Tryz.prog 156 #[.string (s.extract k s.size),.string ⟨b.toArray⟩] W fun e w'=>e = .returned (.bool (b.isPrefixOf (s.data.toList.drop k)))∧w'=W:=fun W=>by
  have hez:(s.extract k s.size).size=s.size - k:=by simp
  have:=hasPrefix_any (s.extract k s.size) ⟨b.toArray⟩ W (by omega) (by rw[hbz];omega)
  rw[hex] at this
  simpa using this
 have hk':(k:Int)≤s.size:=by omega
 clear h hbm hbt M p1 p2 hex
 unfold zbL
 cases hpre:b.isPrefixOf (s.data.toList.drop k) with
 | true=>
  rw[hpre] at HP
  have HPP:=hideP HP
  clear HP
  simp only[if_true]
  go_enter Tryz.func216,Tryz.ntmps216
  go_wp2_with fail
  go_region_with (go_at_call 156;refine (HPP.out _).mono ?_;rintro e w1 ⟨rfl,rfl⟩)
  all_goals go_wp2_with fail
  all_goals
   refine bodyPost_ret (results_cell_row rfl _ _ w.heap.size _ _ _ _ rfl (za4 w _) Tryz.underlying229 rfl (by kernel_rfl)) rfl ?_
   exact⟨by simp[endO],HM.out.below (za1 w _).drew,KpM.of_below (za1 w _).drew⟩
 | false=>
  rw[hpre] at HP
  have HPP:=hideP HP
  clear HP
  simp only[Bool.false_eq_true,if_false]
  go_enter Tryz.func216,Tryz.ntmps216
  go_wp2_with fail
  go_region_with (go_at_call 156;refine (HPP.out _).mono ?_;rintro e w1 ⟨rfl,rfl⟩)
  all_goals go_wp2_with fail
  all_goals
   refine bodyPost_ret (results_cell_row rfl _ _ w.heap.size _ _ _ _ rfl (za4 w _) Tryz.underlying229 rfl (by kernel_rfl)) rfl ?_
   exact⟨by simp[endO],HM.out.below (za1 w _).drew,KpM.of_below (za1 w _).drew⟩
theorem any_any (w:World) (c:Value):Calls Tryz.prog 211 #[c] w fun e w'=>e = .returned (.bool true)∧Below w.heap.size w w':=by
 go_enter Tryz.func211,Tryz.ntmps211
 go_wp2_with fail
 go_ret
 exact⟨rfl,Below.refl _ _⟩
theorem within_any (w:World) (lo hi b:UInt8) (bb:Nat) (h:w.heap[bb]? = some (boxO (.int .u8 b.toNat) 5)) :
  Calls Tryz.prog 219 #[.agg #[.int .u8 lo.toNat,.int .u8 hi.toNat],ptrV bb] w fun e w'=>e = .returned (.bool (decide (lo≤b) && decide (b≤hi)))∧Below w.heap.size w w':=by
 have q:=za0 h
 have l:=za3 h
 clear h
 by_cases h1:lo≤b
 ·have d1:(lo.toNat:Int)≤(b.toNat:Int):=by have:=UInt8.le_iff_toNat_le.mp h1;omega
  by_cases h2:b≤hi
  ·have d2:(b.toNat:Int)≤(hi.toNat:Int):=by have:=UInt8.le_iff_toNat_le.mp h2;omega
   have hr:(decide (lo≤b) && decide (b≤hi))=true:=by simp[h1,h2]
   rw[hr]
   have e1:decide ((lo.toNat:Int)≤(b.toNat:Int))=true:=decide_eq_true d1
   have e2:decide ((b.toNat:Int)≤(hi.toNat:Int))=true:=decide_eq_true d2
   clear h1 h2 hr
   go_enter Tryz.func219,Tryz.ntmps219
   go_wp2_with fail
   go_ret
   exact⟨rfl,za1 _ _⟩
  ·have d2:¬ (b.toNat:Int)≤(hi.toNat:Int):=by intro e;exact h2 (UInt8.le_iff_toNat_le.mpr (by omega))
   have hr:(decide (lo≤b) && decide (b≤hi))=false:=by simp[h2]
   rw[hr]
   have e1:decide ((lo.toNat:Int)≤(b.toNat:Int))=true:=decide_eq_true d1
   have e2:decide ((b.toNat:Int)≤(hi.toNat:Int))=false:=decide_eq_false d2
   have e3:decide (b.toNat≤hi.toNat)=false:=decide_eq_false (by omega)
   clear h1 h2 hr
   go_enter Tryz.func219,Tryz.ntmps219
   go_wp2_with fail
   go_ret
   exact⟨rfl,za1 _ _⟩
 ·have d1:¬ (lo.toNat:Int)≤(b.toNat:Int):=by intro e;exact h1 (UInt8.le_iff_toNat_le.mpr (by omega))
  have hr:(decide (lo≤b) && decide (b≤hi))=false:=by simp[h1]
  rw[hr]
  have e1:decide ((lo.toNat:Int)≤(b.toNat:Int))=false:=decide_eq_false d1
  have e3:decide (lo.toNat≤b.toNat)=false:=decide_eq_false (by omega)
  clear h1 hr
  go_enter Tryz.func219,Tryz.ntmps219
  go_wp2_with fail
  go_ret
  exact⟨rfl,za1 _ _⟩
theorem inSpan_drop (l:List Span) (b:UInt8) (i:Nat) (h:i<l.length):zaT (l.drop i) b=((decide (l[i].1≤b) && decide (b≤l[i].2)) || zaT (l.drop (i+1)) b):=by
 rw[List.drop_eq_getElem_cons h]
 rfl
theorem indexFunc_any (w:World) (u:Value) (l:List Span) (b:UInt8) (bb:Nat) (hs:Spans w 0 u l) (hl:l.length≤100000) (h:w.heap[bb]? = some (boxO (.int .u8 b.toNat) 5)) :
  Calls Tryz.prog 222 #[u,.func (.func 219) #[] #[ptrV bb]] w fun e w'=>∃ r:Int,e = .returned (.int .i64 r)∧decide (0≤r)=zaT l b∧Below w.heap.size w w':=by
 obtain⟨ua,uc,rfl⟩:=za9 hs
 have HSP:=hideP hs
 have HB:=hideP h
 have HR:∃ R,R=zaT l b:=⟨_,rfl⟩
 obtain⟨R,hR⟩:=HR
 rw[← hR]
 have HR:Hid (R=zaT (l.drop 0) b):=hideP hR
 clear hs h hR
 go_enter Tryz.func222,Tryz.ntmps222
 go_wp2_with fail
 go_loopg [8] l.length (fun m v wr=>∃ i:Nat,m=l.length - i∧v = .int .i64 i∧i≤l.length∧Hid (Below w.heap.size w wr)∧Hid (R=zaT (l.drop i) b))
 case atStart=>exact⟨0,by omega,rfl,by omega,hideP (Below.refl _ _),HR⟩
 case round=>
  obtain⟨i,rfl,rfl,hi,HI,HV⟩:=hrel
  by_cases hlt:i<l.length
  ·have hlt':(i:Int)<l.length:=by omega
   obtain⟨g,rfl,hcs,hgl⟩:=zbr HSP.out (by omega)
   have c0:wr.cell? ⟨g,i * 2,none⟩=some (.int .u8 l[i].1.toNat):=by
    rw[HI.out.cell (p:=⟨g,_,none⟩) hgl,hcs _ (by omega)]
    have:=zdu l i 0 hlt (by decide)
    exact this
   have c1:wr.cell? ⟨g,i * 2+1,none⟩=some (.int .u8 l[i].2.toNat):=by
    rw[HI.out.cell (p:=⟨g,_,none⟩) hgl,hcs _ (by omega)]
    have:=zdu l i 1 hlt (by decide)
    exact this
   have hbw:wr.heap[bb]? = some (boxO (.int .u8 b.toNat) 5):=by rw[HI.out.block _ (za7 HB.out)];exact HB.out
   have hin:=within_any wr l[i].1 l[i].2 b bb hbw
   have hdr:=HV.out
   rw[inSpan_drop l b i hlt] at hdr
   generalize (decide (l[i].1≤b) && decide (b≤l[i].2))=ok at *
   have HIN:=hideP hin
   have HDR:=hideP hdr
   clear hin hdr hbw hcs HV
   cases ok with
   | true=>
    go_wp2_with fail
    refine HIN.out.mono ?_
    rintro _ w1 ⟨rfl,hb1⟩
    have HB1:=hideP (HI.out.trans (hb1.mono HI.out.size))
    clear hb1
    go_wp2_with fail
    go_ret
    refine⟨i,rfl,?_,HB1.out⟩
    have:=HDR.out
    rw[Bool.true_or] at this
    rw[this]
    exact decide_eq_true (by omega)
   | false=>
    go_wp2_with fail
    refine HIN.out.mono ?_
    rintro _ w1 ⟨rfl,hb1⟩
    have HB1:=hideP (HI.out.trans (hb1.mono HI.out.size))
    clear hb1
    go_wp2_with fail
    go_roundg (l.length - (i+1))
    case measure=>omega
    case rel=>exact⟨i+1,rfl,by go_num,by omega,HB1,by have:=HDR.out;rw[Bool.false_or] at this;exact hideP this⟩
  ·have hlt':¬ (i:Int)<l.length:=by omega
   have hR:R=false:=by
    have:=HV.out
    rw[List.drop_eq_nil_of_le (by omega)] at this
    simpa [zaT] using this
   subst hR
   clear HV
   go_wp2_with fail
   go_ret
   exact⟨-1,rfl,by decide,HI.out⟩
theorem zeH (w:World) (u:Value) (l:List Span) (b:UInt8) (bb:Nat) (hs:Spans w 0 u l) (hl:l.length≤100000) (h:w.heap[bb]? = some (boxO (.int .u8 b.toNat) 5)) :
  Calls Tryz.prog 218 #[u,.func (.func 219) #[] #[ptrV bb]] w fun e w'=>e = .returned (.bool (zaT l b))∧Below w.heap.size w w':=by
 have HI:=hideP (indexFunc_any w u l b bb hs hl h)
 clear hs h
 go_enter Tryz.func218,Tryz.ntmps218
 go_wp2_with fail
 refine HI.out.mono ?_
 rintro _ w1 ⟨r,rfl,hr,hb⟩
 go_wp2_with fail
 go_ret
 exact⟨by rw[← hr];rfl,hb⟩
theorem class_any (w:World) (u:Value) (l:List Span) (b:UInt8) (bs:Nat) (hu:w.heap[bs]? = some (boxO u 235)) (hs:Spans w 0 u l) (hl:l.length≤100000) :
  Calls Tryz.prog 217 #[.int .u8 b.toNat,ptrV bs] w fun e w'=>e = .returned (.bool (zaT l b))∧Below w.heap.size w w':=by
 have q:=za0 hu
 have lq:=za3 hu
 have hs1:Spans (w.alloc (boxO (.int .u8 b.toNat) 5)) 0 u l:=zah hs (fun g hg=>za5 _ _ (hs.lt g hg).2)
 have HC:=hideP (zeH _ u l b w.heap.size hs1 hl (za4 w _))
 obtain⟨ua,uc,rfl⟩:=za9 hs
 clear hs hs1 hu
 go_enter Tryz.func217,Tryz.ntmps217
 go_wp2_with fail
 refine HC.out.mono ?_
 rintro _ w1 ⟨rfl,hb⟩
 go_wp2_with fail
 go_ret
 exact⟨rfl,(za1 w _).trans (hb.mono (by simp))⟩
end Go.Proofs.YtiganlkabilblaaGreatDoor
