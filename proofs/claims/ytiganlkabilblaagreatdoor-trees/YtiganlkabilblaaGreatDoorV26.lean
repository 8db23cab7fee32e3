import Derived.Test.YtiganlkabilblaaGreatDoorV18
import Derived.Deep.QuietTactic
import Derived.BigQuiet
import Derived.Deep.RegionHeld
import Derived.Test.YtiganlkabilblaaGreatDoorV25
set_option linter.all false
set_option maxHeartbeats 64000000
set_option maxRecDepth 100000
namespace Go.Proofs.YtiganlkabilblaaGreatDoor
open Go.RowKit
attribute [local go_sem ↓] Go.wp_at_zero Go.wp_at_succ
abbrev exV (k:Nat) (ia:Option Addr) (n ic:Nat) (tx:ByteArray) (z:Int) (pa:Option Addr) (m pc:Nat):Value:=.agg #[.int .i64 k,.slice ia n ic,.string tx,.int .i64 z,.slice pa m pc]
abbrev exO' (k:Nat) (ia:Option Addr) (n ic:Nat) (tx:ByteArray) (z:Int) (pa:Option Addr) (m pc:Nat):Obj:=.cells #[.int .i64 k,.slice ia n ic,.string tx,.int .i64 z,.slice pa m pc] 149 (0,0)
theorem ba_get (s:ByteArray) (k:Nat) (h:k<s.size):s.data.toList[k]? = some s[k]:=by
 have:k<s.data.toList.length:=h
 rw[List.getElem?_eq_getElem this]
 simp;rfl
theorem rbytes_any3 (w:World) (tb:Nat) (s:ByteArray) (k:Nat) (ia:Option Addr) (n ic:Nat) (tx:ByteArray) (z:Int) (pa:Option Addr) (m pc:Nat) (htb:tb<w.heap.size) (hin:w.cell? ⟨tb,2,none⟩=some (.string s)) (hs:s.size≤1000) :
  Calls Tryz.prog 173 #[.pointer (some ⟨tb,0,none⟩),exV 3 ia n ic tx z pa m pc,.int .i64 k] w fun e w'=>e = .returned (.int .i64 (encR (if k<s.size then some (k+1) else none)))∧Below w.heap.size w w':=by
 by_cases hk:k<s.size
 ·have hk':(k:Int)<s.size:=by omega
  rw[if_pos hk]
  have hz:encR (some (k+1))=(k:Int)+1:=by simp[encR]
  rw[hz]
  go_enter Tryz.func173,Tryz.ntmps173
  go_wp2_with fail
  go_ret
  exact⟨rfl,za1 _ _⟩
 ·have hk':¬ (k:Int)<s.size:=by omega
  rw[if_neg hk]
  go_enter Tryz.func173,Tryz.ntmps173
  go_wp2_with fail
  go_ret
  exact⟨rfl,za1 _ _⟩
theorem rbytes_any2 (w:World) (tb:Nat) (s:ByteArray) (k B:Nat) (rs:List Thk.Span) (ia:Option Addr) (ic:Nat) (tx:ByteArray) (z:Int) (pa:Option Addr) (m pc:Nat) (htb:tb<w.heap.size) (hin:w.cell? ⟨tb,2,none⟩=some (.string s)) (hs:s.size≤1000) (hit:Items w B (.slice ia rs.length ic) rs) (hl:rs.length≤1000) :
  Calls Tryz.prog 173 #[.pointer (some ⟨tb,0,none⟩),exV 2 ia rs.length ic tx z pa m pc,.int .i64 k] w fun e w'=>e = .returned (.int .i64 (encR (match s.data.toList[k]? with | none=>none | some c=>if Thk.zaT rs c then some (k+1) else none)))∧Below w.heap.size w w':=by
 obtain⟨pa2,pc2,hv,hc⟩:=hit.gen
 cases hv
 have HC:=hideP hc
 clear hit hc
 by_cases hk:k<s.size
 ·have hk':(k:Int)<s.size:=by omega
  rw[ba_get s k hk]
  obtain⟨c,hcc⟩:∃ c,c=s[k]:=⟨_,rfl⟩
  rw[← hcc]
  obtain⟨R,hR⟩:∃ R,R=encR (if Thk.zaT rs c then some (k+1) else none):=⟨_,rfl⟩
  simp only[]
  rw[← hR]
  have HR:Hid (R=encR (if Thk.zaT (rs.drop 0) c then some (k+1) else none)):=hR
  clear hR
  go_enter Tryz.func173,Tryz.ntmps173
  go_wp2_with fail
  go_loopg [7] rs.length (fun mm v wr=>∃ j:Nat,mm=rs.length - j∧v = .int .i64 j∧j≤rs.length∧Hid (Below w.heap.size w wr∧wr.heap[w.heap.size]? = some (exO' 2 ia rs.length ic tx z pa m pc)∧R=encR (if Thk.zaT (rs.drop j) c then some (k+1) else none)))
  case atStart=>exact⟨0,by omega,rfl,by omega,za1 _ _,za4 _ _,HR.out⟩
  case round=>
   obtain⟨j,rfl,rfl,hj,HI⟩:=hrel
   have q:=za0 HI.out.2.1
   have ql:=za3 HI.out.2.1
   have hin':wr.cell? ⟨tb,2,none⟩=some (.string s):=by rw[HI.out.1.cell (p:=⟨tb,2,none⟩) htb];exact hin
   have htb':tb<wr.heap.size:=by have:=HI.out.1.size;omega
   by_cases hlt:j<rs.length
   ·have hlt':(j:Int)<rs.length:=by omega
    obtain⟨pg,rfl,hpg,c0,c1⟩:=HC.out j hlt
    have d0:wr.cell? ⟨pg,j * 2,none⟩=some (.int .u8 rs[j].1.toNat):=by rw[HI.out.1.cell (p:=⟨pg,_,none⟩) hpg];exact c0
    have d1:wr.cell? ⟨pg,j * 2+1,none⟩=some (.int .u8 rs[j].2.toNat):=by rw[HI.out.1.cell (p:=⟨pg,_,none⟩) hpg];exact c1
    have hdr:rs.drop j=rs[j]::rs.drop (j+1):=List.drop_eq_getElem_cons hlt
    have hstep:Thk.zaT (rs.drop j) c=((rs[j].1≤c && c≤rs[j].2) || Thk.zaT (rs.drop (j+1)) c):=by
     rw[hdr];unfold Thk.zaT;rw[List.any_cons]
    have HST:=hideP hstep
    generalize rs[j].1=lo at *
    generalize rs[j].2=hi at *
    clear c0 c1 hdr hstep
    by_cases h1:lo≤c
    ·have h1':(lo.toNat:Int)≤c.toNat:=by have:=UInt8.le_iff_toNat_le.1 h1;omega
     by_cases h2:c≤hi
     ·have h2':(c.toNat:Int)≤hi.toNat:=by have:=UInt8.le_iff_toNat_le.1 h2;omega
      have hRR:R=(k:Int)+1:=by
       rw[HI.out.2.2,HST.out]
       simp[h1,h2,encR]
      subst hRR
      rw[hcc] at h1' h2'
      go_wp2_with fail
      go_quiet (fail)
      go_wp2_with fail
      go_ret
      exact⟨rfl,below_drewN HI.out.1 _⟩
     ·have h2':decide ((c.toNat:Int)≤hi.toNat)=false:=by
       rw[decide_eq_false_iff_not];intro e;apply h2;apply UInt8.le_iff_toNat_le.2;omega
      have HN:Hid (R=encR (if Thk.zaT (rs.drop (j+1)) c then some (k+1) else none)):=by
       show _=_
       rw[HI.out.2.2,HST.out]
       simp[h2]
      have h2n:¬ c.toNat≤hi.toNat:=fun e=>h2 (UInt8.le_iff_toNat_le.2 e)
      have h2a:decide (c.toNat≤hi.toNat)=false:=by simpa using h2n
      have h2b:¬ (c.toNat:Int)≤hi.toNat:=by omega
      have h2d:(hi.toNat:Int)<c.toNat:=by omega
      rw[hcc] at h1' h2' h2n h2a h2b h2d
      clear h1 h2
      go_wp2_with fail
      go_quiet (fail)
      go_wp2_with fail
      go_roundg (rs.length - (j+1))
      case measure=>omega
      case rel=>exact⟨j+1,rfl,by go_num,by omega,below_drewN HI.out.1 _,HI.out.2.1,HN.out⟩
    ·have h1':decide ((lo.toNat:Int)≤c.toNat)=false:=by
      rw[decide_eq_false_iff_not];intro e;apply h1;apply UInt8.le_iff_toNat_le.2;omega
     have HN:Hid (R=encR (if Thk.zaT (rs.drop (j+1)) c then some (k+1) else none)):=by
      show _=_
      rw[HI.out.2.2,HST.out]
      simp[h1]
     have h1n:¬ lo.toNat≤c.toNat:=fun e=>h1 (UInt8.le_iff_toNat_le.2 e)
     have h1a:decide (lo.toNat≤c.toNat)=false:=by simpa using h1n
     have h1b:¬ (lo.toNat:Int)≤c.toNat:=by omega
     have h1d:(c.toNat:Int)<lo.toNat:=by omega
     rw[hcc] at h1' h1n h1a h1b h1d
     clear h1
     go_wp2_with fail
     go_quiet (fail)
     go_wp2_with fail
     go_roundg (rs.length - (j+1))
     case measure=>omega
     case rel=>exact⟨j+1,rfl,by go_num,by omega,below_drewN HI.out.1 _,HI.out.2.1,HN.out⟩
   ·have hlt':¬ (j:Int)<rs.length:=by omega
    have hRR:R = -1:=by
     rw[HI.out.2.2,List.drop_of_length_le (by omega)]
     simp[Thk.zaT,encR]
    subst hRR
    go_wp2_with fail
    go_ret
    exact⟨rfl,HI.out.1⟩
 ·have hk':¬ (k:Int)<s.size:=by omega
  have hkd:decide ((k:Int)<s.size)=false:=by simpa using hk'
  rw[List.getElem?_eq_none (show s.data.toList.length≤k from by show s.size≤k;omega)]
  go_enter Tryz.func173,Tryz.ntmps173
  go_wp2_with fail
  go_loopg [7] 0 (fun mm v wr=>mm=0∧v = .int .i64 0∧Hid (Below w.heap.size w wr∧wr.heap[w.heap.size]? = some (exO' 2 ia rs.length ic tx z pa m pc)))
  case atStart=>exact⟨rfl,rfl,za1 _ _,za4 _ _⟩
  case round=>
   obtain⟨rfl,rfl,HI⟩:=hrel
   have q:=za0 HI.out.2
   have ql:=za3 HI.out.2
   have hin':wr.cell? ⟨tb,2,none⟩=some (.string s):=by rw[HI.out.1.cell (p:=⟨tb,2,none⟩) htb];exact hin
   have htb':tb<wr.heap.size:=by have:=HI.out.1.size;omega
   by_cases h0:(0:Int)<rs.length
   ·go_wp2_with fail
    go_ret
    exact⟨rfl,HI.out.1⟩
   ·have h0':decide ((0:Int)<rs.length)=false:=by simpa using h0
    go_wp2_with fail
    go_ret
    exact⟨rfl,HI.out.1⟩
theorem pre_step (a:UInt8) (l m:List UInt8) (c:UInt8):(a::l).isPrefixOf (c::m)=((a == c) && l.isPrefixOf m):=rfl
theorem rbytes_any1 (w:World) (tb:Nat) (s:ByteArray) (k B:Nat) (rs:List Thk.Span) (ia:Option Addr) (ic:Nat) (tx:ByteArray) (z:Int) (pa:Option Addr) (m pc:Nat) (htb:tb<w.heap.size) (hin:w.cell? ⟨tb,2,none⟩=some (.string s)) (hs:s.size≤1000) (hit:Items w B (.slice ia rs.length ic) rs) (hl:rs.length≤1000) (hk:k≤s.size) :
  Calls Tryz.prog 173 #[.pointer (some ⟨tb,0,none⟩),exV 1 ia rs.length ic tx z pa m pc,.int .i64 k] w fun e w'=>e = .returned (.int .i64 (encR (if (rs.map (·.1)).isPrefixOf (s.data.toList.drop k) then some (k+rs.length) else none)))∧Below w.heap.size w w':=by
 obtain⟨pa2,pc2,hv,hc⟩:=hit.gen
 cases hv
 have HC:=hideP hc
 clear hit hc
 obtain⟨R,hR⟩:∃ R,R=encR (if (rs.map (·.1)).isPrefixOf (s.data.toList.drop k) then some (k+rs.length) else none):=⟨_,rfl⟩
 rw[← hR]
 have HR:Hid (R=encR (if ((rs.drop 0).map (·.1)).isPrefixOf (s.data.toList.drop (k+0)) then some (k+rs.length) else none)):=hR
 clear hR
 go_enter Tryz.func173,Tryz.ntmps173
 go_wp2_with fail
 go_loopg [8] rs.length (fun mm v wr=>∃ j:Nat,mm=rs.length - j∧v = .int .i64 j∧j≤rs.length∧Hid (Below w.heap.size w wr∧wr.heap[w.heap.size]? = some (exO' 1 ia rs.length ic tx z pa m pc)∧R=encR (if ((rs.drop j).map (·.1)).isPrefixOf (s.data.toList.drop (k+j)) then some (k+rs.length) else none)))
 case atStart=>exact⟨0,by omega,rfl,by omega,za1 _ _,za4 _ _,HR.out⟩
 case round=>
  obtain⟨j,rfl,rfl,hj,HI⟩:=hrel
  have q:=za0 HI.out.2.1
  have ql:=za3 HI.out.2.1
  have hin':wr.cell? ⟨tb,2,none⟩=some (.string s):=by rw[HI.out.1.cell (p:=⟨tb,2,none⟩) htb];exact hin
  have htb':tb<wr.heap.size:=by have:=HI.out.1.size;omega
  by_cases hlt:j<rs.length
  ·have hlt':(j:Int)<rs.length:=by omega
   obtain⟨pg,rfl,hpg,c0,c1⟩:=HC.out j hlt
   have d0:wr.cell? ⟨pg,j * 2,none⟩=some (.int .u8 rs[j].1.toNat):=by rw[HI.out.1.cell (p:=⟨pg,_,none⟩) hpg];exact c0
   have hdr:(rs.drop j).map (·.1)=rs[j].1::(rs.drop (j+1)).map (·.1):=by rw[List.drop_eq_getElem_cons hlt];rfl
   clear c0 c1
   by_cases hin2:k+j<s.size
   ·have hin3:(k:Int)+j<s.size:=by omega
    have hin4:decide ((s.size:Int)≤(k:Int)+j)=false:=by simp;omega
    have hin5:¬ (s.size:Int)≤(k:Int)+j:=by omega
    have hcs:s.data.toList.drop (k+j)=s[k+j]::s.data.toList.drop (k+(j+1)):=by
     have h0:k+j<s.data.toList.length:=hin2
     rw[List.drop_eq_getElem_cons h0]
     congr 1
    have hst:((rs.drop j).map (·.1)).isPrefixOf (s.data.toList.drop (k+j))=((rs[j].1 == s[k+j]) && ((rs.drop (j+1)).map (·.1)).isPrefixOf (s.data.toList.drop (k+(j+1)))):=by
     rw[hdr,hcs,pre_step]
    have HST:=hideP hst
    have hti:((k:Int)+(j:Int)).toNat=k+j:=by omega
    have hw:wrap64 ((k:Int)+(j:Int))=(k:Int)+j:=IntWalk.wrap64_in _ ⟨by omega,by omega⟩
    have hnn:(0:Int)≤(k:Int)+j:=by omega
    have hsg : ∀ h : ((k : Int) + (j : Int)).toNat < s.size, (s[((k : Int) + (j : Int)).toNat]'h) = s[k + j] := fun h => by congr 1
    generalize rs[j].1=lo at *
    clear hdr hcs hst
    by_cases h1:lo=s[k+j]
    ·have h1':(s[k+j].toNat:Int)=lo.toNat:=by rw[h1]
     have h1b:((s[k+j].toNat:Int) != (lo.toNat:Int))=false:=by rw[h1];simp
     have HN:Hid (R=encR (if ((rs.drop (j+1)).map (·.1)).isPrefixOf (s.data.toList.drop (k+(j+1))) then some (k+rs.length) else none)):=by
      show _=_
      rw[HI.out.2.2,HST.out,h1]
      simp
     clear h1 h1'
     go_wp2_with fail
     go_quiet (fail)
     go_wp2_with fail
     go_roundg (rs.length - (j+1))
     case measure=>omega
     case rel=>exact⟨j+1,rfl,by go_num,by omega,below_drewN HI.out.1 _,HI.out.2.1,HN.out⟩
    ·have h1n:¬ s[k+j].toNat=lo.toNat:=fun e=>h1 (UInt8.toNat_inj.1 e).symm
     have h1b:((s[k+j].toNat:Int) != (lo.toNat:Int))=true:=by rw[bne_iff_ne];omega
     have hRR:R = -1:=by
      rw[HI.out.2.2,HST.out]
      have:(lo == s[k+j])=false:=by simpa using h1
      rw[this];rfl
     subst hRR
     clear h1
     go_wp2_with fail
     go_quiet (fail)
     go_wp2_with fail
     go_ret
     exact⟨rfl,below_drewN HI.out.1 _⟩
   ·have hin3:(s.size:Int)≤(k:Int)+j:=by omega
    have hin4:decide ((s.size:Int)≤(k:Int)+j)=true:=by simp;omega
    have hw:wrap64 ((k:Int)+(j:Int))=(k:Int)+j:=IntWalk.wrap64_in _ ⟨by omega,by omega⟩
    have hRR:R = -1:=by
     rw[HI.out.2.2,hdr,List.drop_of_length_le (show s.data.toList.length≤k+j from by show s.size≤k+j;omega)]
     rfl
    subst hRR
    clear hdr
    go_wp2_with fail
    go_quiet (fail)
    go_wp2_with fail
    go_ret
    exact⟨rfl,below_drewN HI.out.1 _⟩
  ·have hlt':¬ (j:Int)<rs.length:=by omega
   have hRR:R=(k:Int)+rs.length:=by
    rw[HI.out.2.2,List.drop_of_length_le (by omega)]
    simp[encR]
   subst hRR
   go_wp2_with fail
   go_ret
   exact⟨rfl,HI.out.1⟩
structure Env (w0:World) (B gb:Nat) (vx vr:Value) (ps:List (Thk.RE × Value × Value)) (rs:List (Thk.Bytes × Nat)) (s:ByteArray) (rbs:List Nat):Prop where
 gm:GM w0 B gb vx vr (ps.map (ruled (nmOf rs))) rs
 fits:Fits ps rs
 rpos : 0<rs.length
 rle:rs.length≤20
 ple:ps.length≤10000
 sle:s.size≤200
 len:rbs.length=ps.length
abbrev evS (ps:List (Thk.RE × Value × Value)) (rs:List (Thk.Bytes × Nat)) (s:ByteArray):Nat→REv:=evR (xsOf ps) (nmOf rs) (bdOf rs) s.data.toList
abbrev SndS (ps:List (Thk.RE × Value × Value)) (rs:List (Thk.Bytes × Nat)) (s:ByteArray) (M:Tab):Prop:=Snd (xsOf ps) (nmOf rs) (bdOf rs) s.data.toList M
structure Stt (w0:World) (tb eb ec:Nat) (vx vr:Value) (ps:List (Thk.RE × Value × Value)) (rs:List (Thk.Bytes × Nat)) (s:ByteArray) (rbs:List Nat) (w:World):Prop where
 ex:∃ M,TrAt w0 w tb eb ec vx vr s rbs M∧SndS ps rs s M
theorem Stt.below {w0:World} {tb eb ec:Nat} {vx vr:Value} {ps:List (Thk.RE × Value × Value)} {rs:List (Thk.Bytes × Nat)} {s:ByteArray} {rbs:List Nat} {w w':World} (h:Stt w0 tb eb ec vx vr ps rs s rbs w) (hb:Below w.heap.size w w'):Stt w0 tb eb ec vx vr ps rs s rbs w':=by
 obtain⟨M,h1,h2⟩:=h
 exact⟨M,h1.kept hb,h2⟩
def TryC (w0:World) (tb eb ec:Nat) (vx vr:Value) (ps:List (Thk.RE × Value × Value)) (rs:List (Thk.Bytes × Nat)) (s:ByteArray) (rbs:List Nat) (f:Nat):Prop:=
 ∀ (w:World) (i k:Nat) (v:Option Nat),Stt w0 tb eb ec vx vr ps rs s rbs w→k≤s.size→evS ps rs s f i k=some v →
  Calls Tryz.prog 112 #[.pointer (some ⟨tb,0,none⟩),.int .i64 i,.int .i64 k] w fun e w'=>e = .returned (.int .i64 (encR v))∧Stt w0 tb eb ec vx vr ps rs s rbs w'∧KpM rbs w.heap.size w w'
def TriedC (w0:World) (tb eb ec:Nat) (vx vr:Value) (ps:List (Thk.RE × Value × Value)) (rs:List (Thk.Bytes × Nat)) (s:ByteArray) (rbs:List Nat) (f:Nat):Prop:=
 ∀ (w:World) (i k:Nat) (v:Option Nat),Stt w0 tb eb ec vx vr ps rs s rbs w→k≤s.size→evS ps rs s f i k=some v →
  Calls Tryz.prog 148 #[.pointer (some ⟨tb,0,none⟩),.int .i64 i,.int .i64 k] w fun e w'=>e = .returned (.int .i64 (encR v))∧Stt w0 tb eb ec vx vr ps rs s rbs w'∧KpM rbs w.heap.size w w'
theorem Stt.exq {w0:World} {B gb tb eb ec:Nat} {vx vr:Value} {ps:List (Thk.RE × Value × Value)} {rs:List (Thk.Bytes × Nat)} {s:ByteArray} {rbs:List Nat} {w:World} (hE:Env w0 B gb vx vr ps rs s rbs) (h:Stt w0 tb eb ec vx vr ps rs s rbs w) {k:Nat} {e:Thk.RE} (hx:(xsOf ps)[k]? = some e) (ho:okE (nmOf rs) e=true) :
  ∃ (xg xc:Nat) (ia:Option Addr) (ic:Nat) (pa:Option Addr) (pc:Nat),k<ps.length∧vx = .slice (some ⟨xg,0,none⟩) ps.length xc∧xg<w.heap.size∧w.cell? ⟨xg,k * 5,none⟩=some (.int .i64 e.kind)∧w.cell? ⟨xg,k * 5+1,none⟩=some (.slice ia e.items.length ic)∧w.cell? ⟨xg,k * 5+2,none⟩=some (.string ⟨e.text.toArray⟩)∧w.cell? ⟨xg,k * 5+3,none⟩=some (.int .i64 (rfE (nmOf rs) e 0))∧w.cell? ⟨xg,k * 5+4,none⟩=some (.slice pa e.parts.length pc) ∧
   e.parts.length≤9223372036854775807∧(∀ j (hj:j<e.parts.length),∃ pg,pa=some ⟨pg,0,none⟩∧pg<w0.heap.size∧w0.cell? ⟨pg,j,none⟩=some (.int .i64 e.parts[j]))∧Items w B (.slice ia e.items.length ic) e.items∧e.items.length≤20∧(∀ p ∈ e.parts,p<ps.length)∧(6<e.kind→∃ p,e.parts=[p])∧(e.kind=4→(nmOf rs).contains e.text=true):=by
 have hoE:e.items.length≤20∧(e.kind=4→(nmOf rs).contains e.text=true):=by
  simp only[okE,Bool.and_eq_true,decide_eq_true_eq,Bool.or_eq_true,bne_iff_ne] at ho
  exact⟨ho.1.2,fun h4=>ho.2.resolve_left (fun h=>h h4)⟩
 obtain⟨M,hT,_⟩:=h
 obtain⟨xg,xc,ia,ic,pa,pc,hi,rfl,hxl,c0,c1,c2,c3,c4,hpl,hpn,hpc,hit⟩:=hE.gm.exq hx
 have hs:=hT.size
 have hcell:∀ o,w.cell? ⟨xg,o,none⟩=w0.cell? ⟨xg,o,none⟩:=fun o=>World.cell?_of_block (a:=⟨xg,o,none⟩) (hT.old xg hxl)
 have hmem:∃ p ∈ ps,p.1=e:=by
  rw[List.getElem?_map,List.getElem?_eq_getElem hi] at hx
  exact⟨ps[k],List.getElem_mem hi,by simpa using hx⟩
 obtain⟨p,hp,rfl⟩:=hmem
 have hf:=hE.fits.ex p hp
 refine⟨xg,xc,ia,ic,pa,pc,hi,rfl,by omega,(hcell _).trans c0,(hcell _).trans c1,(hcell _).trans c2,(hcell _).trans c3,(hcell _).trans c4,hpn,hpc,zah hit (fun b hb=>hT.old b (hit.lt b hb).2),hoE.1,hf.1,hf.2.1,hoE.2⟩
theorem Stt.cells {w0:World} {tb eb ec:Nat} {vx vr:Value} {ps:List (Thk.RE × Value × Value)} {rs:List (Thk.Bytes × Nat)} {s:ByteArray} {rbs:List Nat} {w:World} (h:Stt w0 tb eb ec vx vr ps rs s rbs w):tb<w.heap.size∧w0.heap.size≤w.heap.size∧(∀ b,b<w0.heap.size→w.heap[b]? = w0.heap[b]?)∧∀ o,w.cell? ⟨tb,o,none⟩=(#[vx,vr,.string s,.slice (some ⟨eb,0,none⟩) rbs.length ec]:Array Value)[o]? := by
 obtain⟨M,hT,_⟩:=h
 exact⟨za7 hT.blk,hT.size,hT.old,za0 hT.blk⟩
theorem tried_bytes {w0:World} {B gb tb eb ec:Nat} {vx vr:Value} {ps:List (Thk.RE × Value × Value)} {rs:List (Thk.Bytes × Nat)} {s:ByteArray} {rbs:List Nat} (hE:Env w0 B gb vx vr ps rs s rbs) (w:World) (i k:Nat) (e:Thk.RE) (h:Stt w0 tb eb ec vx vr ps rs s rbs w) (hk:k≤s.size) (hx:(xsOf ps)[i]? = some e) (hok:okE (nmOf rs) e=true) (hkd:e.kind=1∨e.kind=2∨e.kind=3) :
  Calls Tryz.prog 148 #[.pointer (some ⟨tb,0,none⟩),.int .i64 i,.int .i64 k] w fun e' w'=>e' = .returned (.int .i64 (encR (zc0 s.data.toList e k)))∧Stt w0 tb eb ec vx vr ps rs s rbs w'∧KpM rbs w.heap.size w w':=by
 obtain⟨xg,xc,ia,ic,pa,pc,hi,rfl,hxl,c0,c1,c2,c3,c4,hpn,hpc,hit,hil,_,_,_⟩:=h.exq hE hx hok
 obtain⟨htl,hsz,hold,q⟩:=h.cells
 have hsl:=hE.sle
 have hpl:=hE.ple
 have hil':(i:Int)<ps.length:=by omega
 have q2:=q 2
 have hb:∀ O:Obj,Calls Tryz.prog 173 #[.pointer (some ⟨tb,0,none⟩),exV e.kind ia e.items.length ic ⟨e.text.toArray⟩ (rfE (nmOf rs) e 0) pa e.parts.length pc,.int .i64 k] (w.alloc O) fun e' w'=>e' = .returned (.int .i64 (encR (zc0 s.data.toList e k)))∧Below (w.alloc O).heap.size (w.alloc O) w':=by
  intro O
  have t1:tb<(w.alloc O).heap.size:=by simp;omega
  have t2:(w.alloc O).cell? ⟨tb,2,none⟩=some (.string s):=by rw[World.cell?_alloc_lt _ _ _ htl];exact q2
  have t3:=hit.below (za1 w O)
  unfold zc0
  rcases hkd with hk1 | hk1 | hk1
  ·rw[if_neg (by omega),if_neg (by omega),hk1]
   exact rbytes_any1 _ tb s k B e.items ia ic _ _ pa _ pc t1 t2 (by omega) t3 (by omega) hk
  ·rw[if_neg (by omega),if_pos hk1,hk1]
   exact rbytes_any2 _ tb s k B e.items ia ic _ _ pa _ pc t1 t2 (by omega) t3 (by omega)
  ·rw[if_pos hk1,hk1]
   exact rbytes_any3 _ tb s k ia _ ic _ _ pa _ pc t1 t2 (by omega)
 have HB:=hideP hb
 have HST:=hideP h
 clear hb hit hpc h hx hE hok
 generalize encR (zc0 s.data.toList e k)=R at *
 generalize e.items.length=il at *
 generalize e.parts.length=pl at *
 generalize rfE (nmOf rs) e 0=z at *
 generalize e.text=tx at *
 generalize e.kind=K at *
 rcases hkd with rfl | rfl | rfl
 all_goals
  go_enter Tryz.func148,Tryz.ntmps148
  go_wp2_with fail
  refine (HB.out _).mono ?_
  rintro _ w1 ⟨rfl,hb1⟩
  have HB1:=hideP ((za1 w _).trans (hb1.mono (by simp)))
  clear hb1
  go_wp2_with fail
  go_ret
  exact⟨rfl,HST.out.below HB1.out,KpM.of_below HB1.out⟩
theorem Stt.fresh {w0:World} {tb eb ec:Nat} {vx vr:Value} {ps:List (Thk.RE × Value × Value)} {rs:List (Thk.Bytes × Nat)} {s:ByteArray} {rbs:List Nat} {w:World} (h:Stt w0 tb eb ec vx vr ps rs s rbs w):∀ b ∈ rbs,b<w.heap.size:=by
 obtain⟨M,hT,_⟩:=h
 intro b hb
 obtain⟨i,hi,rfl⟩:=List.getElem_of_mem hb
 exact za7 (hT.row i hi)
theorem KpM.own {rbs:List Nat} {w w1:World} {O:Obj} (hf:∀ b ∈ rbs,b<w.heap.size) (h:KpM rbs (w.alloc O).heap.size (w.alloc O) w1):w1.heap[w.heap.size]? = some O:=by
 rw[h.block _ (by simp) (fun hb=>by have:=hf _ hb;omega)]
 exact za4 _ _
theorem KpM.alloc {rbs:List Nat} {w w1:World} {O:Obj} (h:KpM rbs (w.alloc O).heap.size (w.alloc O) w1):KpM rbs w.heap.size w w1:=KpM.go (KpM.of_below (za1 w O)) h
theorem tried_name {w0:World} {B gb tb eb ec:Nat} {vx vr:Value} {ps:List (Thk.RE × Value × Value)} {rs:List (Thk.Bytes × Nat)} {s:ByteArray} {rbs:List Nat} (hE:Env w0 B gb vx vr ps rs s rbs) (f:Nat) (hT:TryC w0 tb eb ec vx vr ps rs s rbs f) (w:World) (i k:Nat) (e:Thk.RE) (v:Option Nat) (h:Stt w0 tb eb ec vx vr ps rs s rbs w) (hk:k≤s.size) (hx:(xsOf ps)[i]? = some e) (hok:okE (nmOf rs) e=true) (hkd:e.kind=4) (hv:evS ps rs s f ((bdOf rs).getD (idx0 (nmOf rs) e.text) 0) k=some v) :
  Calls Tryz.prog 148 #[.pointer (some ⟨tb,0,none⟩),.int .i64 i,.int .i64 k] w fun e' w'=>e' = .returned (.int .i64 (encR v))∧Stt w0 tb eb ec vx vr ps rs s rbs w'∧KpM rbs w.heap.size w w':=by
 obtain⟨xg,xc,ia,ic,pa,pc,hi,rfl,hxl,c0,c1,c2,c3,c4,hpn,hpc,hit,hil,_,_,hkn⟩:=h.exq hE hx hok
 obtain⟨htl,hsz,hold,q⟩:=h.cells
 have hpl:=hE.ple
 have hrl:=hE.rle
 have hil':(i:Int)<ps.length:=by omega
 have hcn:=hkn hkd
 have hrf:=zcA (names:=nmOf rs) hkd
 rw[if_pos hcn] at hrf
 have hx0:idx0 (nmOf rs) e.text=(nmOf rs).idxOf e.text:=by unfold idx0;rw[if_pos hcn]
 rw[hx0] at hv
 have hxl2:(nmOf rs).idxOf e.text<rs.length:=by
  have:=List.idxOf_lt_length_iff.2 (show e.text ∈ nmOf rs by simpa using hcn)
  simpa using this
 rw[hrf] at c3
 obtain⟨x,hxx⟩:∃ x,x=(nmOf rs).idxOf e.text:=⟨_,rfl⟩
 rw[← hxx] at c3 hv hxl2
 have hbd:(bdOf rs).getD x 0=rs[x].2:=by
  rw[List.getD_eq_getElem?_getD,List.getElem?_map,List.getElem?_eq_getElem hxl2];rfl
 rw[hbd] at hv
 obtain⟨rg,rc,hvr,_,hrgl⟩:=hE.gm.ruAt hE.rpos
 have hgm:=hE.gm
 subst hvr
 have d1:=(hgm.ruCells x hxl2).2
 have d1':w.cell? ⟨rg,x * 2+1,none⟩=some (.int .i64 rs[x].2):=by rw[World.cell?_of_block (a:=⟨rg,_,none⟩) (hold rg hrgl)];exact d1
 have hrg2:rg<w.heap.size:=by omega
 have hxl3:(x:Int)<rs.length:=by omega
 have hxn:¬ (x:Int)<0:=by omega
 have htry:=fun (O:Obj) (q:Nat)=>hT ((w.alloc O).drewN q) rs[x].2 k v (h.below (below_drewN (za1 w O) q)) hk hv
 have HTR:=hideP htry
 have HF:=hideP h.fresh
 have q0:w.cell? ⟨tb,0,none⟩=some (.slice (some ⟨xg,0,none⟩) ps.length xc):=q 0
 have q1:w.cell? ⟨tb,1,none⟩=some (.slice (some ⟨rg,0,none⟩) rs.length rc):=q 1
 generalize rs[x].2=bd at *
 generalize encR v=R at *
 rw[hkd] at c0
 clear hok hit hpc h hx hE hkn hcn hrf hx0 hxx hbd hgm d1 htry hT hv q hold hkd
 generalize e.items.length=il at *
 generalize e.parts.length=pl at *
 generalize e.text=tx at *
 go_enter Tryz.func148,Tryz.ntmps148
 go_wp2_with fail
 go_region_with (go_at_call 112;refine (HTR.out _ 1).mono ?_;rintro _ w1 ⟨rfl,hs1,hk1⟩;have HS1:=hideP hs1;have HK1:=hideP hk1;clear hs1 hk1)
 all_goals go_wp2_with fail
 all_goals
  go_ret
  exact⟨rfl,HS1.out,KpM.go (KpM.of_below (below_drewN (za1 w _) 1)) HK1.out⟩
end Go.Proofs.YtiganlkabilblaaGreatDoor
namespace Go.Proofs.YtiganlkabilblaaGreatDoor
open Go.RowKit Thk
theorem sm_up {A:Nat→Prop} {kb mb nb n:Nat} {w w':World} (h:w.heap[kb]? = some (makO mb (.map (some nb)) n)) (u:Up kb w w') (hA:∀ g,A g→g≠kb):Sm A w w':=by
 refine⟨fun v l hs=>zah hs (fun g hg=>u.old g (hs.lt g hg).2 ?_),fun g hg hag=>u.old g hg (hA g hag)⟩
 rintro rfl
 obtain⟨cur,hc⟩:=zam hs hg
 rw[h] at hc
 simp at hc
theorem MapIs.up {kb mb nb n:Nat} {names:List Bytes} {w w':World} (hm:MapIs w nb names) (h:w.heap[kb]? = some (makO mb (.map (some nb)) n)) (u:Up kb w w'):MapIs w' nb names:=by
 refine hm.same (u.old nb hm.lt ?_)
 rintro rfl
 obtain⟨D,⟨es,clock,h1,_⟩,_⟩:=hm
 rw[h1] at h
 simp at h
abbrev Mak (kb mb nb:Nat) (N:List Nd) (bx:List (Nat × Nat × Nat)) (S:Nat→Prop) (wt:Nat) (P:List Nd→Nat→Prop) (w:World):Ending→World→Prop:=fun e w'=>∃ N' y n x S',e = .returned (cloV x)∧x=(bx++y).getD n (0,0,0)∧n<N'.length∧Mk w' kb mb nb N' (bx++y) S'∧Goes N N'∧N'.length≤N.length+wt∧P N' n∧KpM [kb] w.heap.size w w'∧GrS w S S'
theorem Made1.mak {kb mb nb:Nat} {N:List Nd} {bx:List (Nat × Nat × Nat)} {S:Nat→Prop} {wt:Nat} {P:List Nd→Nat→Prop} {d:Nd} {w0 w w':World} {e:Ending} (hb:Below w0.heap.size w0 w) (hl:bx.length=N.length) (hP:P (N++[d]) N.length) (hw : 1≤wt) (h:Made1 kb mb nb N bx S d w e w'):Mak kb mb nb N bx S wt P w0 e w':=by
 obtain⟨x,S',rfl,h1,h2,h3⟩:=h
 refine⟨N++[d],[x],N.length,x,S',rfl,?_,by simp,h1,Goes.app _ _,by simp;omega,hP,(KpM.of_below hb).trans (h2.mono hb.size),(GrS.refl _ _).below h3 hb⟩
 rw[List.getD_eq_getElem?_getD,List.getElem?_append_right (by rw[hl];exact Nat.le_refl _),hl,Nat.sub_self];rfl
theorem zcw (N:List Nd) (d:Nd):(N++[d])[N.length]? = some d:=by simp
theorem Mak.then1 {kb mb nb:Nat} {N N1:List Nd} {bx y:List (Nat × Nat × Nat)} {S S1:Nat→Prop} {wt wt1:Nat} {P:List Nd→Nat→Prop} {d:Nd} {w w1 w2:World} {e:Ending} (hk:w.heap[kb]? = some (makO mb (.map (some nb)) N.length)) (hk1:w1.heap[kb]? = some (makO mb (.map (some nb)) N1.length)) (hg:Goes N N1) (hl:(bx++y).length=N1.length) (hn:N1.length≤N.length+wt1) (hK:KpM [kb] w.heap.size w w1) (hS:GrS w S S1) (hP:P (N1++[d]) N1.length) (hw:wt1+1≤wt) (h:Made1 kb mb nb N1 (bx++y) S1 d w1 e w2):Mak kb mb nb N bx S wt P w e w2:=by
 obtain⟨x,S',rfl,h1,h2,h3⟩:=h
 refine⟨N1++[d],y++[x],N1.length,x,S',rfl,?_,by simp,by rw[← List.append_assoc];exact h1,hg.trans (Goes.app _ _),by simp;omega,hP,hK.go h2,hS.trans h3 hk ⟨_,hk1⟩ (Up.of_kpM hK)⟩
 rw[← List.append_assoc,List.getD_eq_getElem?_getD,List.getElem?_append_right (by rw[hl];exact Nat.le_refl _),hl,Nat.sub_self];rfl
theorem dnI_goes {N N':List Nd} (g:Goes N N') {names:List Bytes} {i:Nat} {p:Piece} {b:UInt8} (h:DnI N names i p b):DnI N' names i p b:=by
 have h1:DnT N names i (.mk 0 p b):=by simp only[DnT];exact⟨i,by simp,h⟩
 have h2:=DnT.goes g _ h1
 simp only[DnT] at h2
 obtain⟨i',h3,h4⟩:=h2
 have h5:i=i':=by simpa using h3
 subst h5
 exact h4
def MakP (k:Nat):Prop:=∀ (w:World) (kb mb nb:Nat) (N:List Nd) (bx:List (Nat × Nat × Nat)) (S:Nat→Prop) (names:List Bytes) (A:Nat→Prop) (p:Piece) (v:Value),Mk w kb mb nb N bx S→MapIs w nb names→RPiece w A p v→(∀ g,A g→g≠kb)→depP p≤k→okP p→N.length+(2 * wtP p+1)≤100000000→wtP p≤500000 →
 Calls Tryz.prog 199 #[ptrV kb,v] w (Mak kb mb nb N bx S (2 * wtP p+1) (fun N' n=>DnP N' names n p) w)
def MakI (k:Nat):Prop:=∀ (w:World) (kb mb nb:Nat) (N:List Nd) (bx:List (Nat × Nat × Nat)) (S:Nat→Prop) (names:List Bytes) (A:Nat→Prop) (a:UInt8) (p:Piece) (b:UInt8) (v:Value),Mk w kb mb nb N bx S→MapIs w nb names→RPiece w A p v→(∀ g,A g→g≠kb)→depP p≤k→okT (.mk a p b)→N.length+(2 * wtP p+3)≤100000000→wtP p≤500000 →
 Calls Tryz.prog 190 #[ptrV kb,termV (.mk a p b) v] w (Mak kb mb nb N bx S (2 * wtP p+3) (fun N' n=>DnI N' names n p b) w)
def MakT (k:Nat):Prop:=∀ (w:World) (kb mb nb:Nat) (N:List Nd) (bx:List (Nat × Nat × Nat)) (S:Nat→Prop) (names:List Bytes) (A:Nat→Prop) (t:Term) (v:Value),Mk w kb mb nb N bx S→MapIs w nb names→RTerm w A t v→(∀ g,A g→g≠kb)→depT t≤k→okT t→N.length+2 * wtT t≤100000000→wtT t≤500000 →
 Calls Tryz.prog 174 #[ptrV kb,termV t v] w (Mak kb mb nb N bx S (2 * wtT t) (fun N' n=>DnT N' names n t) w)
def MakS (k:Nat):Prop:=∀ (w:World) (kb mb nb:Nat) (N:List Nd) (bx:List (Nat × Nat × Nat)) (S:Nat→Prop) (names:List Bytes) (A:Nat→Prop) (s:List Term) (u:Value),Mk w kb mb nb N bx S→MapIs w nb names→RSeq w A s u→(∀ g,A g→g≠kb)→depS s≤k→okS s→N.length+2 * wtS s≤100000000→wtS s≤500000 →
 Calls Tryz.prog 149 #[ptrV kb,u] w (Mak kb mb nb N bx S (2 * wtS s) (fun N' n=>∃ ks,N'[n]? = some (.seq ks)∧DnS N' names ks s) w)
def MakC (k:Nat):Prop:=∀ (w:World) (kb mb nb:Nat) (N:List Nd) (bx:List (Nat × Nat × Nat)) (S:Nat→Prop) (names:List Bytes) (A:Nat→Prop) (c:List (List Term)) (u:Value),Mk w kb mb nb N bx S→MapIs w nb names→RChoice w A c u→(∀ g,A g→g≠kb)→depC c≤k→okC c→N.length+2 * wtC c≤100000000→wtC c≤500000 →
 Calls Tryz.prog 119 #[ptrV kb,u] w (Mak kb mb nb N bx S (2 * wtC c) (fun N' n=>DnP N' names n (.group c)) w)
def sumT:List Term→Nat
 | []=>0
 | t::s=>1+wtT t+sumT s
def sumS:List (List Term)→Nat
 | []=>0
 | s::c=>3+wtS s+sumS c
theorem sumT_eq:∀ s:List Term,wtS s=sumT s+2
 | []=>rfl
 | t::s=>by have:=sumT_eq s;simp only[wtS,sumT];omega
theorem sumS_eq:∀ c:List (List Term),c≠[]→wtC c=sumS c
 | [],h=>absurd rfl h
 | [s],_=>by simp only[wtC,sumS];omega
 | s::s2::c,_=>by have:=sumS_eq (s2::c) (by simp);simp only[wtC,sumS] at *;omega
theorem sumT_snoc:∀ (s:List Term) (t:Term),sumT (s++[t])=sumT s+(1+wtT t)
 | [],t=>by simp[sumT]
 | u::s,t=>by have:=sumT_snoc s t;simp only[List.cons_append,sumT];omega
theorem sumS_snoc:∀ (c:List (List Term)) (s:List Term),sumS (c++[s])=sumS c+(3+wtS s)
 | [],t=>by simp[sumS]
 | u::c,s=>by have:=sumS_snoc c s;simp only[List.cons_append,sumS];omega
theorem sumT_take (s:List Term) (j:Nat) (hj:j<s.length):sumT (s.take (j+1))=sumT (s.take j)+(1+wtT s[j]):=by
 rw[List.take_succ_eq_append_getElem hj,sumT_snoc]
theorem sumS_take (c:List (List Term)) (j:Nat) (hj:j<c.length):sumS (c.take (j+1))=sumS (c.take j)+(3+wtS c[j]):=by
 rw[List.take_succ_eq_append_getElem hj,sumS_snoc]
theorem sumT_app:∀ (s t:List Term),sumT (s++t)=sumT s+sumT t
 | [],t=>by simp[sumT]
 | u::s,t=>by have:=sumT_app s t;simp only[List.cons_append,sumT];omega
theorem sumS_app:∀ (s t:List (List Term)),sumS (s++t)=sumS s+sumS t
 | [],t=>by simp[sumS]
 | u::s,t=>by have:=sumS_app s t;simp only[List.cons_append,sumS];omega
theorem sumT_le (s:List Term) (j:Nat):sumT (s.take j)≤sumT s:=by
 conv=>rhs;rw[← List.take_append_drop j s]
 rw[sumT_app];omega
theorem sumS_le (s:List (List Term)) (j:Nat):sumS (s.take j)≤sumS s:=by
 conv=>rhs;rw[← List.take_append_drop j s]
 rw[sumS_app];omega
theorem swtS_len:∀ (s:List Term),s.length≤sumT s
 | []=>by simp
 | t::s=>by have:=swtS_len s;simp only[sumT,List.length_cons];omega
theorem ze7:∀ (c:List (List Term)),c.length≤sumS c
 | []=>by simp
 | t::s=>by have:=ze7 s;simp only[sumS,List.length_cons];omega
theorem okS_get:∀ {s:List Term},okS s→∀ (j:Nat) (hj:j<s.length),okT s[j]
 | t::s,h,0,_=>by simp only[okS] at h;exact h.1
 | t::s,h,j+1,hj=>by simp only[okS] at h;exact okS_get h.2 j (by simpa using hj)
theorem okC_get:∀ {c:List (List Term)},okC c→∀ (j:Nat) (hj:j<c.length),okS c[j]
 | t::s,h,0,_=>by simp only[okC] at h;exact h.1
 | t::s,h,j+1,hj=>by simp only[okC] at h;exact okC_get h.2 j (by simpa using hj)
end Go.Proofs.YtiganlkabilblaaGreatDoor
