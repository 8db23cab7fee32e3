import Derived.Test.YtiganlkabilblaaGreatDoorVL14
import Derived.Test.YtiganlkabilblaaGreatDoorVL27
import Derived.BigQuiet
import Derived.Test.YtiganlkabilblaaGreatDoorVL04
import Derived.Shelf.Strings.BuilderK
import Derived.Deep.RegionHeld
import Derived.Test.YtiganlkabilblaaGreatDoorVL22
set_option linter.all false
set_option maxHeartbeats 64000000
set_option maxRecDepth 100000
namespace Go.Proofs.YtiganlkabilblaaGreatDoor
open Go.RowKit
attribute [local go_sem ↓] Go.wp_at_zero Go.wp_at_succ
theorem zoG (c d:UInt8) (w:World):(convert 117 9 (.slice (some ⟨w.heap.size,0,none⟩) 2 2)).run Tryz.prog (w.alloc (.cells #[.int .u8 c.toNat,.int .u8 d.toNat] 5)) = .ok (.string ⟨#[c,d]⟩) (w.alloc (.cells #[.int .u8 c.toNat,.int .u8 d.toNat] 5)):=by
 have h:=run_convert_bytes_back (P:=Tryz.prog) (w.alloc (.cells #[.int .u8 c.toNat,.int .u8 d.toNat] 5)) 117 9 5 ⟨w.heap.size,0,none⟩ 2 [c,d] Tryz.underlying117 Tryz.underlying5 Tryz.underlying9 (by
  intro j hj
  have e:j=0∨j=1:=by simp at hj;omega
  rcases e with rfl | rfl
  ·exact z8 (zk w _) 0
  ·exact z8 (zk w _) 1)
 exact h
theorem zor (c:UInt8) (m:ByteArray) (w:World) :
  Calls Tryz.prog 198 #[.int .u8 c.toNat,.string m] w fun e w'=>e = .returned (.string ⟨(Thk.znf m.data.toList c).toArray⟩)∧Below w.heap.size w w':=by
 by_cases h10:c=10
 ·subst h10
  go_enter Tryz.func198,Tryz.ntmps198
  go_wp2_with fail
  go_ret
  exact⟨rfl,Below.refl _ _⟩
 ·have g10:¬ (c.toNat:Int)=10:=by intro e;apply h10;apply UInt8.toNat_inj.1;simpa using (by omega:c.toNat=10)
  have g10b:((c.toNat:Int) == 10)=false:=by simpa using g10
  by_cases h9:c=9
  ·subst h9
   go_enter Tryz.func198,Tryz.ntmps198
   go_wp2_with fail
   go_ret
   exact⟨rfl,Below.refl _ _⟩
  ·have g9:¬ (c.toNat:Int)=9:=by intro e;apply h9;apply UInt8.toNat_inj.1;simpa using (by omega:c.toNat=9)
   have g9b:((c.toNat:Int) == 9)=false:=by simpa using g9
   by_cases hb:c=92
   ·subst hb
    have hX:Thk.znf m.data.toList 92=[92,92]:=by unfold Thk.znf;rw[if_neg h10,if_neg h9,if_pos (.inl rfl)]
    rw[hX]
    have hconv:=zoG 92 92 w
    rw[show (((92:UInt8).toNat:Nat):Int)=92 from rfl] at hconv
    clear g10 g10b g9 g9b h10 h9 hX
    go_enter Tryz.func198,Tryz.ntmps198
    go_wp2_with fail
    go_ret
    exact⟨rfl,zc _ _⟩
   ·have g92:¬ (c.toNat:Int)=92:=by intro e;apply hb;apply UInt8.toNat_inj.1;simpa using (by omega:c.toNat=92)
    have g92b:((c.toNat:Int) == 92)=false:=by simpa using g92
    cases hr:m.data.toList.contains c with
    | true=>
     have hX:Thk.znf m.data.toList c=[92,c]:=by unfold Thk.znf;rw[if_neg h10,if_neg h9,if_pos (.inr hr)]
     rw[hX]
     have hc:=za5 m c w hr
     have hconv:=zoG 92 c w
     rw[show (((92:UInt8).toNat:Nat):Int)=92 from rfl] at hconv
     clear hX hr
     go_enter Tryz.func198,Tryz.ntmps198
     go_wp2_with (go_at_call 159;refine hc.mono ?_;rintro e w' ⟨j,hj,rfl,rfl⟩)
     go_wp2_with fail
     go_ret
     exact⟨rfl,zc _ _⟩
    | false=>
     have hX:Thk.znf m.data.toList c=[c]:=by unfold Thk.znf;rw[if_neg h10,if_neg h9,if_neg (by rw[hr];simp[hb])]
     rw[hX]
     have hc:=za4 m c w hr
     have hconv:=zoF c w
     clear hX hr
     go_enter Tryz.func198,Tryz.ntmps198
     go_wp2_with (go_at_call 159;refine hc.mono ?_;rintro e w' ⟨rfl,rfl⟩)
     go_wp2_with fail
     go_ret
     exact⟨rfl,zc _ _⟩
theorem zp9 (b:UInt8) (w:World) :
  Calls Tryz.prog 168 #[.int .u8 b.toNat] w fun e w'=>e = .returned (.string ⟨(Thk.zne b).toArray⟩)∧Below w.heap.size w w':=by
 by_cases h0:b=0
 ·subst h0
  go_enter Tryz.func168,Tryz.ntmps168
  go_wp2_with fail
  go_ret
  exact⟨rfl,Below.refl _ _⟩
 ·have g0:((b.toNat:Int) == 0)=false:=Q3 h0 0 rfl
  have hX:Thk.zne b=[b]:=by unfold Thk.zne;rw[if_neg h0]
  rw[hX]
  have hconv:=zoF b w
  clear h0 hX
  go_enter Tryz.func168,Tryz.ntmps168
  go_wp2_with fail
  go_ret
  exact⟨rfl,zc _ _⟩
theorem zpe {a:UInt8}:((a.toNat:Int) != 0)=(a != 0):=by
 rw[Bool.eq_iff_iff,bne_iff_ne,bne_iff_ne]
 constructor
 ·intro h e;apply h;rw[e];rfl
 ·intro h e;apply h;apply UInt8.toNat_inj.1;rw[show (0:UInt8).toNat=0 from rfl];omega
theorem zpb (a b:UInt8) (vt:TypeId) (vx:Value) (w:World) :
  Calls Tryz.prog 170 #[.agg #[.int .u8 a.toNat,.iface vt vx,.int .u8 b.toNat]] w fun e w'=>e = .returned (.bool (a != 0 || b != 0))∧Below w.heap.size w w':=by
 have h1:=zpe (a:=a)
 have h2:=zpe (a:=b)
 cases h:(a != 0) with
 | true=>
  rw[h] at h1
  clear h
  go_enter Tryz.func170,Tryz.ntmps170
  go_wp2_with fail
  go_ret
  exact⟨rfl,zc _ _⟩
 | false=>
  rw[h] at h1
  generalize (b != 0)=r at *
  clear h
  go_enter Tryz.func170,Tryz.ntmps170
  go_wp2_with fail
  go_ret
  exact⟨by simp,zc _ _⟩
theorem zoC (B b:Nat) (l:List UInt8) (c:UInt8) (i:Int) (hi:(c.toNat:Int)=i) (w:World) (h:Bld B b l w) (hlen:l.length+1≤140737488355328) (hBw:B≤w.heap.size) :
  Calls Tryz.prog 197 #[.pointer (some ⟨b,0,none⟩),.int .u8 i] w fun e w'=>e = .returned .nilIface∧Bld B b (l++[c]) w'∧Below B w w':=hi ▸ zpA B b l c w h hlen hBw
theorem Bld.below {B b:Nat} {l:List UInt8} {w w':World} (h:Bld B b l w) (hb:Below w.heap.size w w'):Bld B b l w':=by
 rcases h with ⟨h1,v,h2,h3,h4⟩ | ⟨h1,v,h2,h3,h4⟩
 ·exact .inl ⟨h1,v,by rw[hb.block _ (zd h2)];exact h2,Zv h3 hb,h4⟩
 ·exact .inr ⟨h1,v,by rw[hb.block _ (zd h2)];exact h2,Zv h3 hb,h4⟩
theorem znU (l:List UInt8):(ByteArray.mk l.toArray).size=l.length:=by show l.toArray.size=_;simp
theorem zpN (s:ByteArray) (w:World) (hb:s.size≤250000) :
  Calls Tryz.prog 185 #[.string s] w fun e w'=>e = .returned (.string ⟨(Thk.znr s.data.toList).toArray⟩)∧Below w.heap.size w w':=by
 have hlen:∀ i,((s.data.toList.take i).flatMap (Thk.znf [39])).length≤500000:=by
  intro i
  have h:∀ b:Thk.z7,(b.flatMap (Thk.znf [39])).length≤2 * b.length:=by
   intro b
   induction b with
   | nil=>simp
   | cons c b ih=>have:=znw [39] c;rw[List.flatMap_cons,List.length_append,List.length_cons];omega
  have:=h (s.data.toList.take i)
  rw[List.length_take] at this
  have:s.data.toList.length=s.size:=rfl
  omega
 have hw1:=zoC w.heap.size w.heap.size [] 39 39 rfl _ (zoz w) (by simp) (by simp)
 have HL:=z6 hlen
 clear hlen
 go_enter Tryz.func185,Tryz.ntmps185
 go_wp2_with fail
 refine hw1.mono ?_
 rintro _ w1 ⟨rfl,hB1,hb1⟩
 have hs1:=hb1.size
 simp at hs1
 have HS:Hid (Bld w.heap.size w.heap.size (39::(s.data.toList.take 0).flatMap (Thk.znf [39])) w1∧Below w.heap.size w w1):=⟨hB1,(zc _ _).trans hb1⟩
 clear hw1 hB1 hb1
 go_wp2_with fail
 go_loopg [8] s.size (fun m v wr=>∃ i:Nat,m=s.size - i∧v = .int .i64 i∧i≤s.size∧Hid (Bld w.heap.size w.heap.size (39::(s.data.toList.take i).flatMap (Thk.znf [39])) wr∧Below w.heap.size w wr))
 case atStart=>exact⟨0,by omega,rfl,by omega,HS⟩
 case round=>
  obtain⟨i,rfl,rfl,hi,HI⟩:=hrel
  have hsr:=HI.out.2.size
  by_cases hlt:i<s.size
  ·have hwr:=zor s[i] ⟨#[39]⟩ wr
   have htk:s.data.toList.take (i+1)=s.data.toList.take i++[s[i]]:=by
    have:i<s.data.toList.length:=by simpa using hlt
    rw[List.take_succ_eq_append_getElem this]
    simp;rfl
   have HTK:=z6 htk
   clear htk
   go_wp2_with fail
   refine hwr.mono ?_
   rintro _ w2 ⟨rfl,hb2⟩
   have hs2:=hb2.size
   have hw2:=zpz w.heap.size w.heap.size _ ⟨(Thk.znf [39] s[i]).toArray⟩ w2 (HI.out.1.below hb2) (by rw[znU,List.length_cons];have:=HL.out i;have:=znw [39] s[i];omega) (by omega)
   have HB2:=z6 (HI.out.2.trans (hb2.mono hsr))
   clear hwr hb2
   go_wp2_with fail
   refine hw2.mono ?_
   rintro _ w3 ⟨rfl,hB3,hb3⟩
   have HN:Hid (Bld w.heap.size w.heap.size (39::(s.data.toList.take (i+1)).flatMap (Thk.znf [39])) w3∧Below w.heap.size w w3):=by
    refine⟨?_,HB2.out.trans hb3⟩
    rw[HTK.out,List.flatMap_append]
    simpa using hB3
   clear hw2 hB3 hb3
   go_wp2_with fail
   go_roundg (s.size - (i+1))
   case measure=>omega
   case rel=>exact⟨i+1,rfl,by go_num,by omega,HN⟩
  ·have htk:s.data.toList.take i=s.data.toList:=List.take_of_length_le (by simp;show s.size≤i;omega)
   have hw4:=zoC w.heap.size w.heap.size _ 39 39 rfl wr HI.out.1 (by rw[List.length_cons];have:=HL.out i;omega) hsr
   have HTK:=z6 htk
   clear htk
   go_wp2_with fail
   refine hw4.mono ?_
   rintro _ w5 ⟨rfl,hB5,hb5⟩
   have hs5:=hb5.size
   have hst:=zpy w.heap.size w.heap.size _ w5 hB5 (by omega)
   have HB5:=z6 (HI.out.2.trans hb5)
   clear hw4 hB5 hb5
   go_wp2_with fail
   refine hst.mono ?_
   rintro _ w6 ⟨rfl,hb6⟩
   have HB6:=z6 (HB5.out.trans hb6)
   clear hst hb6
   go_wp2_with fail
   go_ret
   refine⟨?_,HB6.out⟩
   rw[HTK.out]
   rfl
end Go.Proofs.YtiganlkabilblaaGreatDoor
namespace Go.Proofs.YtiganlkabilblaaGreatDoor
open Go.RowKit
abbrev znh (B b:Nat) (l:List UInt8) (w:World):Prop:=Lib.IsBuilderF 138 5 B b (Lib.byteCells l) w
theorem zoy (w:World):znh w.heap.size w.heap.size [] (w.alloc (.cells #[.pointer none,.slice none 0 0] 138)):=by
 rcases zoz w with h | h
 ·exact .inl (Lib.BuilderAtF.of h)
 ·exact .inr (Lib.BuilderAtF.of h)
theorem zob (B b:Nat) (l:List UInt8) (s:ByteArray) (w:World) (h:znh B b l w) (hlen:l.length+s.size≤140737488355328) (hBw:B≤w.heap.size) :
  Calls Tryz.prog 69 #[.pointer (some ⟨b,0,none⟩),.string s] w fun e w'=>e = .returned (.tuple #[.int .i64 s.size,.nilIface])∧znh B b (l++s.data.toList) w'∧Below B w w'∧Lib.OthersKept 5 (some b) w w':=by
 have L:Go.Proofs.Lays.n166 Tryz.prog znF:={ znT with }
 refine (Any.Builder_WriteString_k L znE B b _ s w h (by simpa [Lib.byteCells] using hlen) hBw).mono ?_
 rintro e w' ⟨he,h1,h2,h3⟩
 refine⟨he,.inr ?_,h2,h3⟩
 rw[zoD] at h1
 exact h1
theorem zoa (B b:Nat) (l:List UInt8) (c:UInt8) (i:Int) (hi:(c.toNat:Int)=i) (w:World) (h:znh B b l w) (hlen:l.length+1≤140737488355328) (hBw:B≤w.heap.size) :
  Calls Tryz.prog 197 #[.pointer (some ⟨b,0,none⟩),.int .u8 i] w fun e w'=>e = .returned .nilIface∧znh B b (l++[c]) w'∧Below B w w'∧Lib.OthersKept 5 (some b) w w':=by
 subst hi
 refine (Any.Builder_WriteByte_k zox znE B b _ c.toNat w h (by simpa [Lib.byteCells] using hlen) hBw).mono ?_
 rintro e w' ⟨he,h1,h2,h3⟩
 refine⟨he,.inr ?_,h2,h3⟩
 have e2:Lib.byteCells (l++[c])=Lib.byteCells l++[.int .u8 c.toNat]:=by simp[Lib.byteCells]
 rw[e2]
 exact h1
theorem zoB (B b:Nat) (l:List UInt8) (w:World) (h:znh B b l w) (hBw:B≤w.heap.size) :
  Calls Tryz.prog 71 #[.pointer (some ⟨b,0,none⟩)] w fun e w'=>e = .returned (.string ⟨l.toArray⟩)∧Below B w w':=by
 have L:Go.Proofs.Lays.n169 Tryz.prog znF:={ znT with }
 refine (Any.Builder_String_any_k L znE B b l w h hBw).mono ?_
 rintro e w' ⟨he,_,h2,_⟩
 exact⟨he,h2⟩
theorem zoZ {w w':World} {base:Nat} {e:TypeId} {size:Nat} {v:Value} {n:Nat} {xs:List Value} (h:w.ownsRowF base e size v n xs) (hb:Below w.heap.size w w'):w'.ownsRowF base e size v n xs:=by
 obtain⟨h1,h2⟩:=h
 refine⟨h1,?_⟩
 rcases h2 with h2 | ⟨g,cap,cur,fz,hv,hg,hh,r⟩
 ·exact .inl h2
 ·exact .inr ⟨g,cap,cur,fz,hv,hg,by rw[hb.block _ (zd hh)];exact hh,r⟩
theorem znh.below {B b:Nat} {l:List UInt8} {w w':World} (h:znh B b l w) (hb:Below w.heap.size w w'):znh B b l w':=by
 rcases h with ⟨h1,v,h2,h3,h4⟩ | ⟨h1,v,h2,h3,h4⟩
 ·exact .inl ⟨h1,v,by rw[hb.block _ (zd h2)];exact h2,zoZ h3 hb,h4⟩
 ·exact .inr ⟨h1,v,by rw[hb.block _ (zd h2)];exact h2,zoZ h3 hb,h4⟩
theorem znh.lt {B b:Nat} {l:List UInt8} {w:World} (h:znh B b l w):b<w.heap.size:=by
 rcases h with ⟨_,v,h2,_⟩ | ⟨_,v,h2,_⟩<;>exact zd h2
end Go.Proofs.YtiganlkabilblaaGreatDoor
namespace Go.Proofs.YtiganlkabilblaaGreatDoor
open Go.RowKit
attribute [local go_sem ↓] Go.wp_at_zero Go.wp_at_succ
abbrev zo5 (p:Thk.zR):Obj:=.cells #[.int .u8 p.1.toNat,.int .u8 p.2.toNat] 313 (0,0)
theorem zoE (l:List Thk.zR) (i:Nat) (h:l.length≤100000):((l.take i).flatMap (Thk.zng [93,45])).length≤500000:=by
 have:=zpc [93,45] (l.take i)
 rw[List.length_take] at this
 omega
theorem zpD (w:World) (u:Value) (l:List Thk.zR) (h:Qr w 0 u l) (hl:l.length≤100000) :
  Calls Tryz.prog 186 #[u] w fun e w'=>e = .returned (.string ⟨(Thk.znv l).toArray⟩)∧Below w.heap.size w w':=by
 obtain⟨ua,uc,rfl⟩:=zl h
 have hw1:=zoa w.heap.size w.heap.size [] 91 91 rfl _ (zoy w) (by simp) (by simp)
 have HSP:=z6 h
 clear h
 go_enter Tryz.func186,Tryz.ntmps186
 go_wp2_with fail
 refine hw1.mono ?_
 rintro _ w1 ⟨rfl,hB1,hb1,_⟩
 have hs1:=hb1.size
 simp at hs1
 have HS:Hid (znh w.heap.size w.heap.size (91::(l.take 0).flatMap (Thk.zng [93,45])) w1∧Below w.heap.size w w1):=⟨hB1,(zc _ _).trans hb1⟩
 clear hw1 hB1 hb1
 go_wp2_with fail
 go_loopg [9] l.length (fun m v wr=>∃ i:Nat,m=l.length - i∧v = .int .i64 i∧i≤l.length∧Hid (znh w.heap.size w.heap.size (91::(l.take i).flatMap (Thk.zng [93,45])) wr∧Below w.heap.size w wr))
 case atStart=>exact⟨0,by omega,rfl,by omega,HS⟩
 case round=>
  obtain⟨i,rfl,rfl,hi,HI⟩:=hrel
  have hsr:=HI.out.2.size
  have hbl:=HI.out.1.lt
  by_cases hlt:i<l.length
  ·have hlt':(i:Int)<l.length:=by omega
   obtain⟨g,rfl,hcs,hgl⟩:=Jk HSP.out (by omega)
   have c0:wr.cell? ⟨g,i * 2,none⟩=some (.int .u8 l[i].1.toNat):=by
    rw[HI.out.2.cell (p:=⟨g,_,none⟩) hgl,hcs _ (by omega)]
    have:=q6 l i 0 hlt (by decide)
    exact this
   have c1:wr.cell? ⟨g,i * 2+1,none⟩=some (.int .u8 l[i].2.toNat):=by
    rw[HI.out.2.cell (p:=⟨g,_,none⟩) hgl,hcs _ (by omega)]
    have:=q6 l i 1 hlt (by decide)
    exact this
   have hsn:(l.take (i+1)).flatMap (Thk.zng [93,45])=(l.take i).flatMap (Thk.zng [93,45])++Thk.zng [93,45] l[i]:=by
    rw[List.take_succ_eq_append_getElem hlt,List.flatMap_append];simp
   have hcl:=zoE l i hl
   obtain⟨⟨lo,hi1⟩,hp⟩:∃ p,p=l[i]:=⟨_,rfl⟩
   rw[← hp] at c0 c1 hsn
   simp only[] at c0 c1
   generalize (l.take i).flatMap (Thk.zng [93,45])=P at *
   obtain⟨X,hX⟩:∃ X,X=wr.alloc (.cells #[.int .u8 lo.toNat,.int .u8 hi1.toNat] 313):=⟨_,rfl⟩
   have hXb:Below wr.heap.size wr X:=by rw[hX];exact zc _ _
   have hXo:X.heap[wr.heap.size]? = some (zo5 (lo,hi1)):=by rw[hX];exact zk _ _
   have hXs:X.heap.size=wr.heap.size+1:=by rw[hX];simp
   have xo:=z8 hXo
   have hwr:=zor lo ⟨#[93,45]⟩ X
   have HXB:=z6 hXb
   have HXO:=z6 hXo
   have HSN:=z6 hsn
   have HCL:=z6 hcl
   have hxl:wr.heap.size<X.heap.size:=by omega
   clear hp hsn hcl hcs hXb hXo
   go_wp2_with fail
   rw[← hX]
   clear hX
   go_wp2_with fail
   refine hwr.mono ?_
   rintro _ w2 ⟨rfl,hb2⟩
   have hs2:=hb2.size
   have hO2:w2.heap[wr.heap.size]? = some (zo5 (lo,hi1)):=by rw[hb2.block _ hxl];exact HXO.out
   have hw2:=zob w.heap.size w.heap.size _ ⟨(Thk.znf [93,45] lo).toArray⟩ w2 (HI.out.1.below (HXB.out.trans (hb2.mono (by omega)))) (by rw[znU,List.length_cons];have:=HCL.out;have:=znw [93,45] lo;omega) (by omega)
   have HB2:=z6 ((HI.out.2.trans (HXB.out.mono hsr)).trans (hb2.mono (by omega)))
   have HO2:=z6 hO2
   clear hwr hb2 hO2
   go_wp2_with fail
   refine hw2.mono ?_
   rintro _ w3 ⟨rfl,hB3,hb3,hk3⟩
   have hs3:=hb3.size
   have hO3:w3.heap[wr.heap.size]? = some (zo5 (lo,hi1)):=hk3 _ _ HO2.out (by intro e;have:=Option.some.inj e;omega) (by intro c fz e;cases e)
   have x3:=z8 hO3
   have l3:=za hO3
   have HB3:=z6 (HB2.out.trans hb3)
   have HBL3:=z6 hB3
   clear hw2 hB3 hb3 hk3
   by_cases hne:lo=hi1
   ·subst hne
    have HN:Hid (znh w.heap.size w.heap.size (91::(l.take (i+1)).flatMap (Thk.zng [93,45])) w3∧Below w.heap.size w w3):=by
     refine⟨?_,HB3.out⟩
     rw[HSN.out]
     have:=HBL3.out
     simpa [Thk.zng] using this
    go_wp2_with fail
    go_roundg (l.length - (i+1))
    case measure=>omega
    case rel=>exact⟨i+1,rfl,by go_num,by omega,HN⟩
   ·have hneb:((lo.toNat:Int) != (hi1.toNat:Int))=true:=by
     rw[bne_iff_ne];intro e;apply hne;apply UInt8.toNat_inj.1;omega
    have hneb2:((lo.toNat:Int) == (hi1.toNat:Int))=false:=by
     rw[beq_eq_false_iff_ne];intro e;apply hne;apply UInt8.toNat_inj.1;omega
    have hw4:=zoa w.heap.size w.heap.size _ 45 45 rfl w3 HBL3.out (by simp;have:=HCL.out;have:=znw [93,45] lo;omega) (by omega)
    have HO3:=z6 hO3
    have HNE:=z6 hne
    clear hne
    go_wp2_with fail
    refine hw4.mono ?_
    rintro _ w5 ⟨rfl,hB5,hb5,hk5⟩
    have hs5:=hb5.size
    have hO5:w5.heap[wr.heap.size]? = some (zo5 (lo,hi1)):=hk5 _ _ HO3.out (by intro e;have:=Option.some.inj e;omega) (by intro c fz e;cases e)
    have x5:=z8 hO5
    have l5:=za hO5
    have hwr2:=zor hi1 ⟨#[93,45]⟩ w5
    have HB5:=z6 (HB3.out.trans hb5)
    have HBL5:=z6 hB5
    clear hw4 hB5 hb5 hk5 hO5 x3 xo
    go_wp2_with fail
    refine hwr2.mono ?_
    rintro _ w6 ⟨rfl,hb6⟩
    have hs6:=hb6.size
    have hw7:=zob w.heap.size w.heap.size _ ⟨(Thk.znf [93,45] hi1).toArray⟩ w6 (HBL5.out.below hb6) (by rw[znU];simp;have:=HCL.out;have:=znw [93,45] lo;have:=znw [93,45] hi1;omega) (by omega)
    have HB6:=z6 (HB5.out.trans (hb6.mono (by omega)))
    clear hwr2 hb6
    go_wp2_with fail
    refine hw7.mono ?_
    rintro _ w8 ⟨rfl,hB8,hb8,hk8⟩
    have HN:Hid (znh w.heap.size w.heap.size (91::(l.take (i+1)).flatMap (Thk.zng [93,45])) w8∧Below w.heap.size w w8):=by
     refine⟨?_,HB6.out.trans hb8⟩
     rw[HSN.out]
     have hne2:¬ hi1=lo:=fun e=>HNE.out e.symm
     have:=hB8
     simpa [Thk.zng,hne2] using this
    clear hw7 hB8 hb8 hk8
    go_wp2_with fail
    go_roundg (l.length - (i+1))
    case measure=>omega
    case rel=>exact⟨i+1,rfl,by go_num,by omega,HN⟩
  ·have hlt':¬ (i:Int)<l.length:=by omega
   have htk:l.take i=l:=List.take_of_length_le (by omega)
   have hcl:=zoE l i hl
   have hw4:=zoa w.heap.size w.heap.size _ 93 93 rfl wr HI.out.1 (by rw[List.length_cons];omega) hsr
   have HTK:=z6 htk
   clear htk
   go_wp2_with fail
   refine hw4.mono ?_
   rintro _ w5 ⟨rfl,hB5,hb5,_⟩
   have hs5:=hb5.size
   have hst:=zoB w.heap.size w.heap.size _ w5 hB5 (by omega)
   have HB5:=z6 (HI.out.2.trans hb5)
   clear hw4 hB5 hb5
   go_wp2_with fail
   refine hst.mono ?_
   rintro _ w6 ⟨rfl,hb6⟩
   have HB6:=z6 (HB5.out.trans hb6)
   clear hst hb6
   go_wp2_with fail
   go_ret
   refine⟨?_,HB6.out⟩
   rw[HTK.out]
   rfl
def PlP (k:Nat):Prop:=∀ (w:World) (A:Nat→Prop) (p:Thk.zC) (v:Value) (sg:Bool),zp w A p v→Y6 p≤k→Thk.wtP p≤500000 →
 Calls Tryz.prog 169 #[v,.bool sg] w fun e w'=>e = .returned (.string ⟨(Thk.prP p sg).toArray⟩)∧Below w.heap.size w w'
def PlT (k:Nat):Prop:=∀ (w:World) (A:Nat→Prop) (t:Thk.Term) (v:Value),Zk w A t v→Jx t≤k→Thk.wtT t≤500000 →
 Calls Tryz.prog 145 #[QN t v] w fun e w'=>e = .returned (.string ⟨(Thk.prT t).toArray⟩)∧Below w.heap.size w w'
def PlC (k:Nat):Prop:=∀ (w:World) (A:Nat→Prop) (c:Thk.Z5) (u:Value),Zt w A c u→Qt c≤k→Thk.wtC c≤500000 →
 Calls Tryz.prog 70 #[u] w fun e w'=>e = .returned (.string ⟨(Thk.prC c).toArray⟩)∧Below w.heap.size w w'
def PlG (k:Nat):Prop:=∀ (w:World) (A:Nat→Prop) (c:Thk.Z5) (u:Value) (sg:Bool),Zt w A c u→Qt c≤k→Thk.wtC c≤500000 →
 Calls Tryz.prog 187 #[u,.bool sg] w fun e w'=>e = .returned (.string ⟨(Thk.prP (.group c) sg).toArray⟩)∧Below w.heap.size w w'
theorem zpu (x:Value) (w:World):(Instr.typeAssert (.iface 319 x) 247 319 true).run Tryz.prog w = .ok (.tuple #[x,.bool true]) w:=by kernel_rfl
theorem zpr (x:Value) (w:World):(Instr.typeAssert (.iface 321 x) 247 319 true).run Tryz.prog w = .ok (.tuple #[.agg #[.string ⟨#[]⟩],.bool false]) w:=by kernel_rfl
theorem zpq (x:Value) (w:World):(Instr.typeAssert (.iface 321 x) 247 321 true).run Tryz.prog w = .ok (.tuple #[x,.bool true]) w:=by kernel_rfl
theorem zpp (x:Value) (w:World):(Instr.typeAssert (.iface 345 x) 247 319 true).run Tryz.prog w = .ok (.tuple #[.agg #[.string ⟨#[]⟩],.bool false]) w:=by kernel_rfl
theorem zpo (x:Value) (w:World):(Instr.typeAssert (.iface 345 x) 247 321 true).run Tryz.prog w = .ok (.tuple #[.agg #[.slice none 0 0],.bool false]) w:=by kernel_rfl
theorem zpt (x:Value) (w:World):(Instr.typeAssert (.iface 296 x) 247 319 true).run Tryz.prog w = .ok (.tuple #[.agg #[.string ⟨#[]⟩],.bool false]) w:=by kernel_rfl
theorem zps (x:Value) (w:World):(Instr.typeAssert (.iface 296 x) 247 321 true).run Tryz.prog w = .ok (.tuple #[.agg #[.slice none 0 0],.bool false]) w:=by kernel_rfl
theorem zpT (k:Nat) (hG:∀ k',k'<k→PlG k'):PlP k:=by
 intro w A p v sg hp hk hw
 cases p with
 | name b=>
  simp only[zp] at hp
  obtain⟨rfl,hbl⟩:=hp
  simp only[Thk.prP]
  have a1:=Ui
  clear hk hw hG
  go_enter Tryz.func169,Tryz.ntmps169
  go_wp2_with fail
  go_ret
  exact⟨rfl,zc _ _⟩
 | lit b=>
  simp only[zp] at hp
  subst hp
  simp only[Thk.wtP] at hw
  have a1:=Uh
  have a2:=zpu
  have hlt:=fun O=>zpN ⟨b.toArray⟩ (w.alloc O) (by rw[znU];omega)
  simp only[Thk.prP]
  rw[show (ByteArray.mk b.toArray).data.toList=b from by simp] at hlt
  clear hk hw hG
  go_enter Tryz.func169,Tryz.ntmps169
  go_wp2_with fail
  refine (hlt _).mono ?_
  rintro _ w1 ⟨rfl,hb⟩
  clear hlt
  go_wp2_with fail
  go_ret
  exact⟨rfl,(zc _ _).trans (hb.mono (by simp))⟩
 | cls l=>
  simp only[zp] at hp
  obtain⟨u,rfl,hs⟩:=hp
  obtain⟨ua,uc,rfl⟩:=zl hs
  simp only[Thk.wtP] at hw
  have a1:=Ue
  have a2:=zpr
  have a3:=zpq
  have hct:=fun O=>zpD (w.alloc O) (.slice ua l.length uc) l (Zv hs (zc w O)) (by omega)
  simp only[Thk.prP]
  generalize l.length=n at *
  clear hk hw hG hs
  go_enter Tryz.func169,Tryz.ntmps169
  go_wp2_with fail
  refine (hct _).mono ?_
  rintro _ w1 ⟨rfl,hb⟩
  clear hct
  go_wp2_with fail
  go_ret
  exact⟨rfl,(zc _ _).trans (hb.mono (by simp))⟩
 | any=>
  simp only[zp] at hp
  subst hp
  have a1:=Uc
  have a2:=zpp
  have a3:=zpo
  have a4:=Vn
  simp only[Thk.prP]
  clear hk hw hG
  go_enter Tryz.func169,Tryz.ntmps169
  go_wp2_with fail
  go_ret
  exact⟨rfl,Below.refl _ _⟩
 | group c=>
  simp only[zp] at hp
  obtain⟨u,us,rfl,hrow,hseqs⟩:=hp
  obtain⟨ua,uc,rfl⟩:=zl hrow.1
  have hdep:Qt c<k:=by simp only[Y6] at hk;omega
  simp only[Thk.wtP] at hw
  have hgt:=fun O=>hG _ hdep (w.alloc O) A c (.slice ua c.length uc) sg (Zt.kept (ZF (zc w O)) ⟨us,hrow,hseqs⟩) (Nat.le_refl _) (by omega)
  have a1:=Uf
  have a2:=zpt
  have a3:=zps
  have a4:=Vo
  generalize Thk.prP (.group c) sg=R at *
  generalize c.length=n at *
  clear hk hw hG hrow hseqs hdep
  go_enter Tryz.func169,Tryz.ntmps169
  go_wp2_with fail
  refine (hgt _).mono ?_
  rintro _ w1 ⟨rfl,hb⟩
  clear hgt
  go_wp2_with fail
  go_ret
  exact⟨rfl,(zc _ _).trans (hb.mono (by simp))⟩
abbrev zqr (a b:UInt8) (vt:TypeId) (vx:Value):Obj:=.cells #[.int .u8 a.toNat,.iface vt vx,.int .u8 b.toNat] 249 (0,0)
theorem zqs (k:Nat) (hP:PlP k):PlT k:=by
 intro w A t v ht hk hw
 obtain⟨a,p,b⟩:=t
 simp only[Zk] at ht
 simp only[Jx] at hk
 simp only[Thk.wtT] at hw
 obtain⟨vt,vx,rfl⟩:=zp.oneCell ht
 simp only[Thk.prT,QN,Thk.Term.ahead,Thk.Term.behind]
 have hpc:=fun (W:World) (hb:Below w.heap.size w W)=>hP W A p (.iface vt vx) (a != 0 || b != 0) (zp.kept (ZF hb) p _ ht) hk (by omega)
 have hsa:=fun W=>zp9 a W
 have hsb:=fun W=>zp9 b W
 have hsd:=fun W=>zpb a b vt vx W
 have hlp:=Thk.zom p (a != 0 || b != 0)
 have hla:=Thk.zo4 a
 have hlb:=Thk.zo4 b
 generalize Thk.prP p (a != 0 || b != 0)=R at *
 generalize Thk.zne a=SA at *
 generalize Thk.zne b=SB at *
 have a1:∀ W:World,(Op.stringOp .add ⟨SA.toArray⟩ ⟨R.toArray⟩).run Tryz.prog W = .ok (.string ⟨(SA++R).toArray⟩) W:=fun W=>znD SA R (by omega) W
 have a2:∀ W:World,(Op.stringOp .add ⟨(SA++R).toArray⟩ ⟨SB.toArray⟩).run Tryz.prog W = .ok (.string ⟨((SA++R)++SB).toArray⟩) W:=fun W=>znD _ SB (by simp;omega) W
 have HEQ:Hid ((SA++R)++SB=SA++(R++SB)):=List.append_assoc _ _ _
 generalize (SA++R)++SB=Z at *
 generalize SA++R=Y at *
 generalize (a != 0 || b != 0)=sg at *
 obtain⟨X,hX⟩:∃ X,X=w.alloc (.cells #[.int .u8 a.toNat,.iface vt vx,.int .u8 b.toNat] 249):=⟨_,rfl⟩
 have hBX:Below w.heap.size w X:=by rw[hX];exact zc _ _
 have hXo:X.heap[w.heap.size]? = some (zqr a b vt vx):=by rw[hX];exact zk _ _
 have hXl:=za hXo
 have s0:X.cell? ⟨w.heap.size,0,none⟩=some (.int .u8 a.toNat):=z8 hXo 0
 have s1:X.cell? ⟨w.heap.size,1,none⟩=some (.iface vt vx):=z8 hXo 1
 have s2:X.cell? ⟨w.heap.size,2,none⟩=some (.int .u8 b.toNat):=z8 hXo 2
 have HB:=z6 hBX
 have HPC:=z6 hpc
 have HSA:=z6 hsa
 have HSB:=z6 hsb
 have HSD:=z6 hsd
 clear hP ht hk hw hpc hsa hsb hsd hlp hla hlb hBX hXo
 go_enter Tryz.func145,Tryz.ntmps145
 go_wp2_with fail
 rw[← hX]
 clear hX
 go_region_held (fun w'=>w'.cell? ⟨w.heap.size,0,none⟩=some (.int .u8 a.toNat)∧w'.cell? ⟨w.heap.size,1,none⟩=some (.iface vt vx)∧w'.cell? ⟨w.heap.size,2,none⟩=some (.int .u8 b.toNat)) (go_keep)
  (first
   | (go_at_call 168;refine (HSA.out _).mono ?_;rintro _ wn ⟨rfl,hb⟩;replace s0:=(hb.cell (p:=⟨w.heap.size,0,none⟩) hXl).trans s0;replace s1:=(hb.cell (p:=⟨w.heap.size,1,none⟩) hXl).trans s1;replace s2:=(hb.cell (p:=⟨w.heap.size,2,none⟩) hXl).trans s2;replace HB:=z6 (HB.out.drew.trans (hb.mono (Nat.le_of_lt hXl)));replace hXl:=Nat.lt_of_lt_of_le hXl hb.size;clear hb)
   | (go_at_call 168;refine (HSA.out _).mono ?_;rintro _ wn ⟨rfl,hb⟩;replace s0:=(hb.cell (p:=⟨w.heap.size,0,none⟩) hXl).trans s0;replace s1:=(hb.cell (p:=⟨w.heap.size,1,none⟩) hXl).trans s1;replace s2:=(hb.cell (p:=⟨w.heap.size,2,none⟩) hXl).trans s2;replace HB:=z6 (HB.out.trans (hb.mono (Nat.le_of_lt hXl)));replace hXl:=Nat.lt_of_lt_of_le hXl hb.size;clear hb)
   | (go_at_call 168;refine (HSB.out _).mono ?_;rintro _ wn ⟨rfl,hb⟩;replace s0:=(hb.cell (p:=⟨w.heap.size,0,none⟩) hXl).trans s0;replace s1:=(hb.cell (p:=⟨w.heap.size,1,none⟩) hXl).trans s1;replace s2:=(hb.cell (p:=⟨w.heap.size,2,none⟩) hXl).trans s2;replace HB:=z6 (HB.out.trans (hb.mono (Nat.le_of_lt hXl)));replace hXl:=Nat.lt_of_lt_of_le hXl hb.size;clear hb)
   | (go_at_call 170;refine (HSD.out _).mono ?_;rintro _ wn ⟨rfl,hb⟩;replace s0:=(hb.cell (p:=⟨w.heap.size,0,none⟩) hXl).trans s0;replace s1:=(hb.cell (p:=⟨w.heap.size,1,none⟩) hXl).trans s1;replace s2:=(hb.cell (p:=⟨w.heap.size,2,none⟩) hXl).trans s2;replace HB:=z6 (HB.out.trans (hb.mono (Nat.le_of_lt hXl)));replace hXl:=Nat.lt_of_lt_of_le hXl hb.size;clear hb)
   | (go_at_call 169;refine (HPC.out _ HB.out).mono ?_;rintro _ wn ⟨rfl,hb⟩;replace s0:=(hb.cell (p:=⟨w.heap.size,0,none⟩) hXl).trans s0;replace s1:=(hb.cell (p:=⟨w.heap.size,1,none⟩) hXl).trans s1;replace s2:=(hb.cell (p:=⟨w.heap.size,2,none⟩) hXl).trans s2;replace HB:=z6 (HB.out.trans (hb.mono (Nat.le_of_lt hXl)));replace hXl:=Nat.lt_of_lt_of_le hXl hb.size;clear hb))
 all_goals go_wp2_with fail
 all_goals
  go_ret
  exact⟨congrArg (fun l=>Ending.returned (Value.string ⟨List.toArray l⟩)) HEQ.out,HB.out⟩
theorem zoA (s:Thk.z7) (hl:s.length≤600000):(∀ W:World,(Op.stringOp .add ⟨#[40]⟩ ⟨s.toArray⟩).run Tryz.prog W = .ok (.string ⟨(40::s).toArray⟩) W)∧∀ W:World,(Op.stringOp .add ⟨(40::s).toArray⟩ ⟨#[41]⟩).run Tryz.prog W = .ok (.string ⟨(40::(s++[41])).toArray⟩) W:=
 ⟨fun W=>znD [40] s (by simp;omega) W,fun W=>znD (40::s) [41] (by simp;omega) W⟩
theorem zpJ (k:Nat) (hP:PlP k) (hT:PlT k) (hC:PlC k):PlG k:=by
 intro w A c u sg hc hk hw
 obtain⟨us,⟨hrow,hA⟩,hsq⟩:=hc
 obtain⟨ua,uc,rfl⟩:=zl hrow
 have hch:=hC w A c (.slice ua c.length uc) ⟨us,⟨hrow,hA⟩,hsq⟩ hk hw
 have hlc:=Thk.znJ c
 obtain⟨b1,b2⟩:=zoA (Thk.prC c) (by omega)
 rcases c with _ | ⟨s0,_ | ⟨s1,c'⟩⟩
 ·simp only[Thk.wtC] at hw;omega
 ·simp only[zA] at hsq
  obtain⟨u0,us',rfl,⟨vs,⟨hr0,hA0⟩,hts⟩,rfl⟩:=hsq
  obtain⟨ta,tc,rfl⟩:=zl hr0
  obtain⟨g,rfl,hcs,hgl⟩:=Jk hrow (by simp)
  have c0:w.cell? ⟨g,0,none⟩=some (.slice ta s0.length tc):=by rw[hcs 0 (by simp)];rfl
  simp only[List.length_singleton] at hch ⊢
  rcases s0 with _ | ⟨⟨a,p,b⟩,_ | ⟨t2,s'⟩⟩
  ·simp only[Thk.prP,List.length_nil] at c0 ⊢
   clear hrow hk hw hlc hA hC hP hT hcs hch b1 b2 hr0 hts
   go_enter Tryz.func187,Tryz.ntmps187
   go_wp2_with fail
   go_ret
   exact⟨rfl,Below.refl _ _⟩
  ·simp only[zD] at hts
   obtain⟨v,vs',rfl,ht,rfl⟩:=hts
   have htm:=ht
   simp only[Zk] at ht
   obtain⟨vt,vx,rfl⟩:=zp.oneCell ht
   simp only[List.length_singleton] at hr0 c0
   obtain⟨g2,rfl,hcs2,hgl2⟩:=Jk hr0 (by decide)
   have e0:w.cell? ⟨g2,0,none⟩=some (.int .u8 a.toNat):=by rw[hcs2 0 (by decide)];rfl
   have e1:w.cell? ⟨g2,1,none⟩=some (.iface vt vx):=by rw[hcs2 1 (by decide)];rfl
   have e2:w.cell? ⟨g2,2,none⟩=some (.int .u8 b.toNat):=by rw[hcs2 2 (by decide)];rfl
   have hdp:Y6 p≤k:=by
    simp only[Qt,YO,Jx] at hk
    omega
   have hwp:Thk.wtP p+2≤500000:=by
    simp only[Thk.wtC,Thk.wtS,Thk.wtT] at hw
    omega
   have hpc:=fun (W:World) (hb:Below w.heap.size w W)=>hP W A p (.iface vt vx) sg (zp.kept (ZF hb) p _ ht) hdp (by omega)
   have htt:=fun (W:World) (hb:Below w.heap.size w W)=>hT W A (.mk a p b) (.iface vt vx) (Zk.kept (ZF hb) _ _ htm) (by simp only[Jx];exact hdp) (by simp only[Thk.wtT];omega)
   simp only[QN,Thk.Term.ahead,Thk.Term.behind] at htt
   have hlt:=Thk.zo1 (.mk a p b)
   simp only[Thk.wtT] at hlt
   obtain⟨d1,d2⟩:=zoA (Thk.prT (.mk a p b)) (by omega)
   have hsd:=fun W=>zpb a b vt vx W
   simp only[Thk.prP]
   generalize Thk.prT (.mk a p b)=R at *
   generalize 40::R=R1 at *
   generalize Thk.prP p sg=Z at *
   have HPC:=z6 hpc
   have HTT:=z6 htt
   clear hrow hk hw hlc hA hC hP hT hcs hr0 hA0 hch b1 b2 hcs2 hdp hwp ht htm hlt hpc htt
   by_cases h0:a=0∧b=0
   ·have hz:(a != 0 || b != 0)=false:=by rw[h0.1,h0.2];rfl
    rw[hz] at hsd
    have HSD:=z6 hsd
    rw[if_pos h0]
    clear h0 hz hsd
    go_enter Tryz.func187,Tryz.ntmps187
    go_wp2_with fail
    refine (HSD.out _).mono ?_
    rintro _ w1 ⟨rfl,hb⟩
    have x1:w1.cell? ⟨w.heap.size,1,none⟩=some (.iface vt vx):=by
     rw[hb.cell (p:=⟨w.heap.size,1,none⟩) (by simp)]
     exact z8 (zk w _) 1
    have hz1:=hb.size
    simp at hz1
    have hl1:w.heap.size<w1.heap.size:=by omega
    have HB1:=z6 ((zc w _).trans (hb.mono (by simp)))
    clear hb
    go_wp2_with fail
    refine (HPC.out _ HB1.out).mono ?_
    rintro _ w2 ⟨rfl,hb2⟩
    have HB2:=z6 (HB1.out.trans (hb2.mono (by omega)))
    clear hb2
    go_wp2_with fail
    go_ret
    exact⟨rfl,HB2.out⟩
   ·have hz:(a != 0 || b != 0)=true:=by
     by_cases ha:a=0
     ·have:b≠0:=fun e=>h0 ⟨ha,e⟩
      simp[this]
     ·simp[ha]
    rw[hz] at hsd
    have HSD:=z6 hsd
    rw[if_neg h0]
    clear h0 hz hsd
    cases sg with
    | true=>
     go_enter Tryz.func187,Tryz.ntmps187
     go_wp2_with fail
     refine (HSD.out _).mono ?_
     rintro _ w1 ⟨rfl,hb⟩
     have x0:w1.cell? ⟨w.heap.size,0,none⟩=some (.int .u8 a.toNat):=by
      rw[hb.cell (p:=⟨w.heap.size,0,none⟩) (by simp)]
      exact z8 (zk w _) 0
     have x1:w1.cell? ⟨w.heap.size,1,none⟩=some (.iface vt vx):=by
      rw[hb.cell (p:=⟨w.heap.size,1,none⟩) (by simp)]
      exact z8 (zk w _) 1
     have x2:w1.cell? ⟨w.heap.size,2,none⟩=some (.int .u8 b.toNat):=by
      rw[hb.cell (p:=⟨w.heap.size,2,none⟩) (by simp)]
      exact z8 (zk w _) 2
     have hz1:=hb.size
     simp at hz1
     have hl1:w.heap.size<w1.heap.size:=by omega
     have HB1:=z6 ((zc w _).trans (hb.mono (by simp)))
     clear hb
     go_wp2_with fail
     refine (HTT.out _ HB1.out).mono ?_
     rintro _ w2 ⟨rfl,hb2⟩
     have HB2:=z6 (HB1.out.trans (hb2.mono (by omega)))
     clear hb2
     go_wp2_with fail
     go_ret
     exact⟨rfl,HB2.out⟩
    | false=>
     go_enter Tryz.func187,Tryz.ntmps187
     go_wp2_with fail
     refine (HSD.out _).mono ?_
     rintro _ w1 ⟨rfl,hb⟩
     have x0:w1.cell? ⟨w.heap.size,0,none⟩=some (.int .u8 a.toNat):=by
      rw[hb.cell (p:=⟨w.heap.size,0,none⟩) (by simp)]
      exact z8 (zk w _) 0
     have x1:w1.cell? ⟨w.heap.size,1,none⟩=some (.iface vt vx):=by
      rw[hb.cell (p:=⟨w.heap.size,1,none⟩) (by simp)]
      exact z8 (zk w _) 1
     have x2:w1.cell? ⟨w.heap.size,2,none⟩=some (.int .u8 b.toNat):=by
      rw[hb.cell (p:=⟨w.heap.size,2,none⟩) (by simp)]
      exact z8 (zk w _) 2
     have hz1:=hb.size
     simp at hz1
     have hl1:w.heap.size<w1.heap.size:=by omega
     have HB1:=z6 ((zc w _).trans (hb.mono (by simp)))
     clear hb
     go_wp2_with fail
     refine (HTT.out _ HB1.out).mono ?_
     rintro _ w2 ⟨rfl,hb2⟩
     have HB2:=z6 (HB1.out.trans (hb2.mono (by omega)))
     clear hb2
     go_wp2_with fail
     go_ret
     exact⟨rfl,HB2.out⟩
  ·rw[Thk.znQ _ _ (by simp) (by simp)]
   have hM : 1<(.mk a p b::t2::s').length:=by simp
   have hmx:(.mk a p b::t2::s').length≤9223372036854775807:=by
    rcases hr0.2 with ⟨_,h2⟩ | ⟨g,cap,cur,hv,_,_,h1,h2,_⟩
    ·omega
    ·unfold maxLen at h2;omega
   generalize Thk.prC [.mk a p b::t2::s']=R at *
   generalize 40::R=R1 at *
   generalize (.mk a p b::t2::s').length=M at *
   have hM':(1:Int)<M:=by omega
   clear hrow hk hw hlc hA hC hP hT hcs hr0 hts hA0
   go_enter Tryz.func187,Tryz.ntmps187
   go_wp2_with fail
   refine hch.mono ?_
   rintro _ w1 ⟨rfl,hb⟩
   clear hch
   go_wp2_with fail
   go_ret
   exact⟨rfl,hb⟩
 ·rw[Thk.znQ _ _ (by simp) (by simp)]
  have hN : 1<(s0::s1::c').length:=by simp
  have hmx:(s0::s1::c').length≤9223372036854775807:=by
   rcases hrow.2 with ⟨_,h2⟩ | ⟨g,cap,cur,hv,_,_,h1,h2,_⟩
   ·omega
   ·unfold maxLen at h2;omega
  obtain⟨g,rfl,hcs,hgl⟩:=Jk hrow (by omega)
  generalize Thk.prC (s0::s1::c')=R at *
  generalize 40::R=R1 at *
  generalize (s0::s1::c').length=N at *
  have hN':(1:Int)<N:=by omega
  clear hrow hsq hk hw hlc hA hC hP hT hcs
  go_enter Tryz.func187,Tryz.ntmps187
  go_wp2_with fail
  refine hch.mono ?_
  rintro _ w1 ⟨rfl,hb⟩
  clear hch
  go_wp2_with fail
  go_ret
  exact⟨rfl,hb⟩
theorem Tryz.infoString:(Tryz.prog.info? 9).map (fun i=>(i.zero,i.size,i.bytes))=some (some (.string ⟨#[]⟩),1,16):=by kernel_rfl
def znn (b:Thk.z7):Value:=.string ⟨b.toArray⟩
theorem zoY (n:Nat) (hn:n≤1000000) (w:World):∃ cur:Array Value,cur.size=n * 1∧(Instr.makeSlice 58 (.int .i64 0) (.int .i64 n)).run Tryz.prog w = .ok (.slice (some ⟨w.heap.size,0,none⟩) 0 n) (w.alloc (.cells cur 9)):=by
 obtain⟨i0,hi,hz0,hz1,hz2⟩:=info_parts Tryz.infoString
 refine⟨madeCells (Value.string ⟨#[]⟩).cells (((n:Nat):Int).toNat * i0.size),?_,?_⟩
 ·rw[size_madeCells,hz1];simp
 ·have h:=run_make (P:=Tryz.prog) w 58 9 i0 _ Tryz.underlying58 hi hz0 .i64 .i64 0 (n:Int) (by omega) (by omega) (by rw[hz2];omega) (by omega)
  simpa using h
theorem ze1 {W wr w1 w6:World} {O:Obj} {v:Value} {e:TypeId} {sz n:Nat} {xs:List Value} (hB:Below W.heap.size W wr) (hown:w1.ownsRow W.heap.size e sz v n xs) (h1:Below wr.heap.size wr w1) (hg:(w1.alloc O).grownBy w6 v.ownBlock):Below W.heap.size W w6:=by
 have hs:=hB.size
 have hs1:=h1.size
 have hs2:=hg.size
 simp at hs2
 refine⟨hg.os.trans (h1.os.trans hB.os),hg.tape.trans (h1.tape.trans hB.tape),hg.output.trans (h1.output.trans hB.output),by omega,fun k hk=>?_⟩
 rw[hg.block k (by simp;omega) (fun e=>by have:=(hown.lt k e.symm).1;omega),zm _ _ (by omega),h1.block k (by omega)]
 exact hB.block k hk
theorem zoU (sep y:List UInt8) (r:List (List UInt8)):Lib.joinTail sep (y::r)=sep++y++Lib.joinTail sep r:=by
 simp[Lib.joinTail]
theorem zoT:∀ (x:Thk.z7) (r:List Thk.z7),jS (x::r)=x++Lib.joinTail [32] r
 | x,[]=>by simp[jS,Lib.joinTail]
 | x,y::r=>by
  have:=zoT y r
  simp only[jS]
  rw[this,zoU]
  simp
theorem zoS:∀ (x:List Thk.z7) (r:List (List Thk.z7)),jC (x::r)=jSq x++Lib.joinTail [32,47,32] (r.map jSq)
 | x,[]=>by simp[jC,Lib.joinTail]
 | x,y::r=>by
  have:=zoS y r
  simp only[jC,List.map_cons]
  rw[this,zoU]
  simp
theorem zqe (s:List Thk.Term) (h:s≠[]):Lib.join (s.map Thk.prT) [32]=Thk.znd s:=by
 cases s with
 | nil=>exact absurd rfl h
 | cons t s=>rw[znW,List.map_cons,Lib.join_cons];simp only[jSq];rw[zoT]
theorem zqa (c:List (List Thk.Term)) (h:c≠[]):Lib.join (c.map Thk.znd) [32,47,32]=Thk.prC c:=by
 cases c with
 | nil=>exact absurd rfl h
 | cons s c=>
  rw[zp0,List.map_cons,List.map_cons,Lib.join_cons,zoS,znW,List.map_map]
  congr 3
  funext x
  simp[znW]
theorem zoV {w:World} {B:Nat} {va:Option Addr} {n cap:Nat} {L:List Thk.z7} {sep:Thk.z7} {R:Thk.z7} (h:w.ownsRow B 9 1 (.slice va n cap) n (L.map znn)) (hL:L.length=n) (hn : 0<n) (hn2:n≤1000000) (hR:Lib.join L sep=R) (hl:R.length≤1000000) :
  Calls Tryz.prog 107 #[.slice va n cap,.string ⟨sep.toArray⟩] w fun e w'=>e = .returned (.string ⟨R.toArray⟩)∧Below w.heap.size w w':=by
 obtain⟨g,rfl,hcs,hgl⟩:=Jk h hn
 have hcap:n≤cap:=by
  rcases h.2 with ⟨_,h2⟩ | ⟨g,cap,cur,hv,_,_,h1,h2,_⟩
  ·omega
  ·cases hv;exact h1
 have hx:(L.map (fun b=>ByteArray.mk b.toArray)).map (·.data.toList)=L:=by
  rw[List.map_map]
  conv=>rhs;rw[← List.map_id L]
  apply List.map_congr_left
  intro a _
  simp
 have hj:=zpv g 0 cap (L.map (fun b=>ByteArray.mk b.toArray)) ⟨sep.toArray⟩ w (by
  intro j x hjx
  rw[List.getElem?_map] at hjx
  have hj:j<L.length:=by
   rcases Nat.lt_or_ge j L.length with h | h
   ·exact h
   ·rw[List.getElem?_eq_none h] at hjx;cases hjx
  rw[List.getElem?_eq_getElem hj] at hjx
  simp only[Option.map_some,Option.some.injEq] at hjx
  rw[Nat.zero_add,hcs j (by omega),List.getElem?_map,List.getElem?_eq_getElem hj]
  simp only[Option.map_some,Option.some.injEq]
  rw[← hjx];rfl) hgl (by rw[List.length_map];omega) (by rw[List.length_map];omega) (by
   rw[hx,show (ByteArray.mk sep.toArray).data.toList=sep from by simp,hR];omega)
 rw[hx,show (ByteArray.mk sep.toArray).data.toList=sep from by simp,hR,List.length_map,hL] at hj
 exact hj
def PlS (k:Nat):Prop:=∀ (w:World) (A:Nat→Prop) (s:Thk.Seq) (u:Value),QX w A s u→YO s≤k→Thk.wtS s≤500000 →
 Calls Tryz.prog 106 #[u] w fun e w'=>e = .returned (.string ⟨(Thk.znd s).toArray⟩)∧Below w.heap.size w w'
theorem zpj:∀ (s:List Thk.Term) (j:Nat) (hj:j<s.length),Thk.wtT s[j]≤Thk.wtS s
 | [],_,hj=>by simp at hj
 | t::s,0,_=>by simp only[Thk.wtS,List.getElem_cons_zero];omega
 | t::s,j+1,hj=>by simp only[Thk.wtS,List.getElem_cons_succ];have:=zpj s j (by simpa using hj);omega
theorem zpk:∀ (s:List Thk.Term),s.length≤Thk.wtS s
 | []=>by simp
 | t::s=>by have:=zpk s;simp only[Thk.wtS,List.length_cons];omega
theorem zqf (s:List Thk.Term):(Thk.znd s).length≤Thk.wtS s:=by
 cases s with
 | nil=>simp[Thk.znd,Thk.wtS]
 | cons t s=>have:=Thk.zo0 (t::s);simpa only[Thk.znd] using this
theorem zph:∀ (c:List (List Thk.Term)) (j:Nat) (hj:j<c.length),Thk.wtS c[j]≤Thk.wtC c
 | [],_,hj=>by simp at hj
 | [s],j,hj=>by
  have:j=0:=by simp at hj;exact hj
  subst this
  simp only[Thk.wtC,List.getElem_cons_zero];omega
 | s::s2::c,0,_=>by simp only[Thk.wtC,List.getElem_cons_zero];omega
 | s::s2::c,j+1,hj=>by
  have:=zph (s2::c) j (by simpa using hj)
  simp only[Thk.wtC,List.getElem_cons_succ];omega
theorem zpi:∀ (c:List (List Thk.Term)),c.length≤Thk.wtC c
 | []=>by simp
 | [s]=>by simp only[Thk.wtC,List.length_singleton];omega
 | s::s2::c=>by have:=zpi (s2::c);simp only[Thk.wtC,List.length_cons] at *;omega
theorem zqi (k:Nat) (hT:PlT k):PlS k:=by
 intro w A s u hp hk hw
 obtain⟨vs,⟨hrow,hA⟩,hts⟩:=hp
 obtain⟨ua,uc,rfl⟩:=zl hrow
 have hsl:=zpk s
 by_cases hs0:s=[]
 ·subst hs0
  simp only[List.length_nil,Thk.znd]
  clear hrow hA hts hk hw hT hsl
  go_enter Tryz.func106,Tryz.ntmps106
  go_wp2_with fail
  go_ret
  exact⟨rfl,Below.refl _ _⟩
 ·have hpos : 0<s.length:=List.length_pos_iff.2 hs0
  have HVL:Hid (s.length=vs.length):=zD.length hts
  obtain⟨i0,hi0,hz0,hz1,hz2⟩:=info_parts Tryz.infoString
  obtain⟨cur,hcs0,hmk⟩:=zoY s.length (by omega) w
  obtain⟨g,rfl,hcs,hgl⟩:=Jk hrow hpos
  have HM0:Hid (Below w.heap.size w (w.alloc (.cells cur 9))∧(w.alloc (.cells cur 9)).ownsRow w.heap.size 9 1 (.slice (some ⟨w.heap.size,0,none⟩) 0 s.length) 0 (((s.map Thk.prT).take 0).map znn)):=⟨zc _ _,World.ownsRow_made w cur s.length (Nat.le_refl _) (by unfold maxLen;omega) hcs0⟩
  have HJ:=z6 (zqe s hs0)
  have HLEN:=z6 (Nat.le_trans (zqf s) hw)
  have h0:¬ (s.length:Int)=0:=by omega
  have h0b:((s.length:Int) == 0)=false:=by simpa using h0
  have hn1:s.length≤500000:=by omega
  have HTS:=z6 hts
  have HCS:=z6 hcs
  have HK:=z6 hk
  have HW:=z6 hw
  clear hrow hA hts hk hw hsl hs0 hcs0 hcs
  go_enter Tryz.func106,Tryz.ntmps106
  go_wp2_with fail
  go_loopg [3,14] s.length (fun m vo vi wr=>∃ i:Nat,m=s.length - i∧vi = .int .i64 i∧i≤s.length∧Hid (Below w.heap.size w wr∧wr.ownsRow w.heap.size 9 1 vo i (((s.map Thk.prT).take i).map znn)))
  case atStart=>exact⟨0,by omega,rfl,by omega,HM0⟩
  case round=>
   obtain⟨i,rfl,rfl,hi,HI⟩:=hrel
   have hsr:=HI.out.1.size
   obtain⟨oa,oc,hvo⟩:=zl HI.out.2
   subst hvo
   by_cases hlt:i<s.length
   ·have hlt':(i:Int)<s.length:=by omega
    have hjv:i<vs.length:=by have:=HVL.out;omega
    obtain⟨t0,t1,t2⟩:=V1 s vs HVL.out i hlt
    have c0:wr.cell? ⟨g,i * 3,none⟩=some (.int .u8 s[i].ahead.toNat):=by rw[HI.out.1.cell (p:=⟨g,_,none⟩) hgl,HCS.out _ (by omega)];exact t0
    have c1 : wr.cell? ⟨g, i * 3 + 1, none⟩ = some (vs[i]'hjv) := by rw [HI.out.1.cell (p := ⟨g, _, none⟩) hgl, HCS.out _ (by omega)]; exact t1
    have c2:wr.cell? ⟨g,i * 3+2,none⟩=some (.int .u8 s[i].behind.toNat):=by rw[HI.out.1.cell (p:=⟨g,_,none⟩) hgl,HCS.out _ (by omega)];exact t2
    have htr:=zD.get HTS.out i hlt hjv
    have hpc := fun O => hT (wr.alloc O) A s[i] (vs[i]'hjv) (Zk.kept (ZF (HI.out.1.alloc hsr O)) _ _ htr) (Nat.le_trans (KI s i hlt) HK.out) (Nat.le_trans (zpj s i hlt) HW.out)
    obtain ⟨tt, xx, hvx⟩ : ∃ t x, vs[i]'hjv = .iface t x := by
     cases htt:s[i] with
     | mk a p b=>rw[htt] at htr;simp only[Zk] at htr;exact zp.oneCell htr
    rw[hvx] at c1
    simp only[hvx,QN] at hpc
    have hsn:((s.map Thk.prT).take (i+1)).map znn=((s.map Thk.prT).take i).map znn++[znn (Thk.prT s[i])]:=by
     rw[List.take_succ_eq_append_getElem (by simpa using hlt),List.map_append];simp
    have HSN:=z6 hsn
    generalize Thk.prT s[i]=T at *
    generalize s[i].ahead=ah at *
    generalize s[i].behind=be at *
    clear htr t0 t1 t2 hvx hsn
    go_wp2_with fail
    refine (hpc _).mono ?_
    rintro _ w1 ⟨rfl,hb1⟩
    have hz1':=hb1.size
    simp at hz1'
    have HB1:=z6 ((zc wr _).trans (hb1.mono (by simp)))
    have hown1:=Zv HI.out.2 HB1.out
    clear hpc hb1
    go_wp2_with (first | (at_builtin;refine wpList_append_own_at _ rfl _ _ 58 rfl (w.heap.size) 9 i0 _ 1 16 Tryz.underlying58 hi0 hz0 hz1 hz2 rfl (by decide) _ _ _ rfl (hown1.alloc _) ⟨w1.heap.size,0,none⟩ 1 1 [.string ⟨T.toArray⟩] rfl rfl ?c1 ?c2 ?c3 ?c4 ?c5 ?_))
    case c1=>exact cell_one_new _ _ _
    case c2=>intro u hu;simp at hu;subst hu;rfl
    case c3=>unfold maxLen;omega
    case c4=>omega
    case c5=>simp;omega
    intro v' w5 hown' hgrow _ hat
    obtain⟨va,vc,hv⟩:=zl hown'
    subst hv
    have HN:Hid (Below w.heap.size w w5∧w5.ownsRow w.heap.size 9 1 (.slice va (i+1) vc) (i+1) (((s.map Thk.prT).take (i+1)).map znn)):=by
     refine⟨ze1 HI.out.1 hown1 HB1.out hgrow,?_⟩
     rw[HSN.out,List.map_take,List.map_map]
     exact hown'
    clear hown' hgrow hat hown1
    go_wp2_with fail
    go_roundg (s.length - (i+1))
    case measure=>omega
    case rel=>exact⟨i+1,rfl,by go_num,by omega,HN⟩
   ·have hlt':¬ (i:Int)<s.length:=by omega
    have hie:i=s.length:=by omega
    subst hie
    have htk:(s.map Thk.prT).take s.length=s.map Thk.prT:=List.take_of_length_le (by simp)
    have hrw:=HI.out.2
    rw[htk] at hrw
    have hjn:=zoV hrw (by simp) hpos (by omega) HJ.out (by have:=HLEN.out;omega)
    have HJN:=z6 hjn
    clear htk hrw hjn
    go_wp2_with fail
    refine HJN.out.mono ?_
    rintro _ w6 ⟨rfl,hb6⟩
    have HB6:=z6 (HI.out.1.trans (hb6.mono hsr))
    clear hb6
    go_wp2_with fail
    go_ret
    exact⟨rfl,HB6.out⟩
end Go.Proofs.YtiganlkabilblaaGreatDoor
