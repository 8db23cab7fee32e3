import Derived.Test.YtiganlkabilblaaGreatDoorV18
import Derived.Deep.QuietTactic
import Derived.BigQuiet
import Derived.Deep.RegionHeld
set_option linter.all false
set_option maxHeartbeats 64000000
set_option maxRecDepth 100000
namespace Go.Proofs.YtiganlkabilblaaGreatDoor
open Go.RowKit
attribute [local go_sem ↓] Go.wp_at_zero Go.wp_at_succ
abbrev exV (k:Nat) (ia:Option Addr) (n ic:Nat) (tx:ByteArray) (z:Int) (pa:Option Addr) (m pc:Nat):Value:=.agg #[.int .i64 k,.slice ia n ic,.string tx,.int .i64 z,.slice pa m pc]
abbrev qP (k:Nat) (ia:Option Addr) (n ic:Nat) (tx:ByteArray) (z:Int) (pa:Option Addr) (m pc:Nat):Obj:=.cells #[.int .i64 k,.slice ia n ic,.string tx,.int .i64 z,.slice pa m pc] 149 (0,0)
theorem zdQ (s:ByteArray) (k:Nat) (h:k<s.size):s.data.toList[k]? = some s[k]:=by
 have:k<s.data.toList.length:=h
 rw[List.getElem?_eq_getElem this]
 simp;rfl
theorem zht (w:World) (tb:Nat) (s:ByteArray) (k:Nat) (ia:Option Addr) (n ic:Nat) (tx:ByteArray) (z:Int) (pa:Option Addr) (m pc:Nat) (htb:tb<w.heap.size) (hin:w.cell? ⟨tb,2,none⟩=some (.string s)) (hs:s.size≤1000) :
  Calls Tryz.prog 173 #[.pointer (some ⟨tb,0,none⟩),exV 3 ia n ic tx z pa m pc,.int .i64 k] w fun e w'=>e = .returned (.int .i64 (zF (if k<s.size then some (k+1) else none)))∧Below w.heap.size w w':=by
 by_cases hk:k<s.size
 ·have hk':(k:Int)<s.size:=by omega
  rw[if_pos hk]
  have hz:zF (some (k+1))=(k:Int)+1:=by simp[zF]
  rw[hz]
  go_enter Tryz.func173,Tryz.ntmps173
  go_wp2_with fail
  go_ret
  exact⟨rfl,zc _ _⟩
 ·have hk':¬ (k:Int)<s.size:=by omega
  rw[if_neg hk]
  go_enter Tryz.func173,Tryz.ntmps173
  go_wp2_with fail
  go_ret
  exact⟨rfl,zc _ _⟩
theorem zhs (w:World) (tb:Nat) (s:ByteArray) (k B:Nat) (rs:List Thk.zR) (ia:Option Addr) (ic:Nat) (tx:ByteArray) (z:Int) (pa:Option Addr) (m pc:Nat) (htb:tb<w.heap.size) (hin:w.cell? ⟨tb,2,none⟩=some (.string s)) (hs:s.size≤1000) (hit:Items w B (.slice ia rs.length ic) rs) (hl:rs.length≤1000) :
  Calls Tryz.prog 173 #[.pointer (some ⟨tb,0,none⟩),exV 2 ia rs.length ic tx z pa m pc,.int .i64 k] w fun e w'=>e = .returned (.int .i64 (zF (match s.data.toList[k]? with | none=>none | some c=>if Thk.Q7 rs c then some (k+1) else none)))∧Below w.heap.size w w':=by
 obtain⟨pa2,pc2,hv,hc⟩:=hit.gen
 cases hv
 have HC:=z6 hc
 clear hit hc
 by_cases hk:k<s.size
 ·have hk':(k:Int)<s.size:=by omega
  rw[zdQ s k hk]
  obtain⟨c,hcc⟩:∃ c,c=s[k]:=⟨_,rfl⟩
  rw[← hcc]
  obtain⟨R,hR⟩:∃ R,R=zF (if Thk.Q7 rs c then some (k+1) else none):=⟨_,rfl⟩
  simp only[]
  rw[← hR]
  have HR:Hid (R=zF (if Thk.Q7 (rs.drop 0) c then some (k+1) else none)):=hR
  clear hR
  go_enter Tryz.func173,Tryz.ntmps173
  go_wp2_with fail
  go_loopg [7] rs.length (fun mm v wr=>∃ j:Nat,mm=rs.length - j∧v = .int .i64 j∧j≤rs.length∧Hid (Below w.heap.size w wr∧wr.heap[w.heap.size]? = some (qP 2 ia rs.length ic tx z pa m pc)∧R=zF (if Thk.Q7 (rs.drop j) c then some (k+1) else none)))
  case atStart=>exact⟨0,by omega,rfl,by omega,zc _ _,zk _ _,HR.out⟩
  case round=>
   obtain⟨j,rfl,rfl,hj,HI⟩:=hrel
   have q:=z8 HI.out.2.1
   have ql:=za HI.out.2.1
   have hin':wr.cell? ⟨tb,2,none⟩=some (.string s):=by rw[HI.out.1.cell (p:=⟨tb,2,none⟩) htb];exact hin
   have htb':tb<wr.heap.size:=by have:=HI.out.1.size;omega
   by_cases hlt:j<rs.length
   ·have hlt':(j:Int)<rs.length:=by omega
    obtain⟨pg,rfl,hpg,c0,c1⟩:=HC.out j hlt
    have d0:wr.cell? ⟨pg,j * 2,none⟩=some (.int .u8 rs[j].1.toNat):=by rw[HI.out.1.cell (p:=⟨pg,_,none⟩) hpg];exact c0
    have d1:wr.cell? ⟨pg,j * 2+1,none⟩=some (.int .u8 rs[j].2.toNat):=by rw[HI.out.1.cell (p:=⟨pg,_,none⟩) hpg];exact c1
    have hdr:rs.drop j=rs[j]::rs.drop (j+1):=List.drop_eq_getElem_cons hlt
    have hstep:Thk.Q7 (rs.drop j) c=((rs[j].1≤c && c≤rs[j].2) || Thk.Q7 (rs.drop (j+1)) c):=by
     rw[hdr];unfold Thk.Q7;rw[List.any_cons]
    have HST:=z6 hstep
    generalize rs[j].1=lo at *
    generalize rs[j].2=hi at *
    clear c0 c1 hdr hstep
    by_cases h1:lo≤c
    ·have h1':(lo.toNat:Int)≤c.toNat:=by have:=UInt8.le_iff_toNat_le.1 h1;omega
     by_cases h2:c≤hi
     ·have h2':(c.toNat:Int)≤hi.toNat:=by have:=UInt8.le_iff_toNat_le.1 h2;omega
      have hRR:R=(k:Int)+1:=by
       rw[HI.out.2.2,HST.out]
       simp[h1,h2,zF]
      subst hRR
      rw[hcc] at h1' h2'
      go_wp2_with fail
      go_quiet (fail)
      go_wp2_with fail
      go_ret
      exact⟨rfl,below_drewN HI.out.1 _⟩
     ·have h2':decide ((c.toNat:Int)≤hi.toNat)=false:=by
       rw[decide_eq_false_iff_not];intro e;apply h2;apply UInt8.le_iff_toNat_le.2;omega
      have HN:Hid (R=zF (if Thk.Q7 (rs.drop (j+1)) c then some (k+1) else none)):=by
       show _=_
       rw[HI.out.2.2,HST.out]
       simp[h2]
      have h2n:¬ c.toNat≤hi.toNat:=fun e=>h2 (UInt8.le_iff_toNat_le.2 e)
      have h2a:decide (c.toNat≤hi.toNat)=false:=by simpa using h2n
      have h2b:¬ (c.toNat:Int)≤hi.toNat:=by omega
      have h2d:(hi.toNat:Int)<c.toNat:=by omega
      rw[hcc] at h1' h2' h2n h2a h2b h2d
      clear h1 h2
      go_wp2_with fail
      go_quiet (fail)
      go_wp2_with fail
      go_roundg (rs.length - (j+1))
      case measure=>omega
      case rel=>exact⟨j+1,rfl,by go_num,by omega,below_drewN HI.out.1 _,HI.out.2.1,HN.out⟩
    ·have h1':decide ((lo.toNat:Int)≤c.toNat)=false:=by
      rw[decide_eq_false_iff_not];intro e;apply h1;apply UInt8.le_iff_toNat_le.2;omega
     have HN:Hid (R=zF (if Thk.Q7 (rs.drop (j+1)) c then some (k+1) else none)):=by
      show _=_
      rw[HI.out.2.2,HST.out]
      simp[h1]
     have h1n:¬ lo.toNat≤c.toNat:=fun e=>h1 (UInt8.le_iff_toNat_le.2 e)
     have h1a:decide (lo.toNat≤c.toNat)=false:=by simpa using h1n
     have h1b:¬ (lo.toNat:Int)≤c.toNat:=by omega
     have h1d:(c.toNat:Int)<lo.toNat:=by omega
     rw[hcc] at h1' h1n h1a h1b h1d
     clear h1
     go_wp2_with fail
     go_quiet (fail)
     go_wp2_with fail
     go_roundg (rs.length - (j+1))
     case measure=>omega
     case rel=>exact⟨j+1,rfl,by go_num,by omega,below_drewN HI.out.1 _,HI.out.2.1,HN.out⟩
   ·have hlt':¬ (j:Int)<rs.length:=by omega
    have hRR:R = -1:=by
     rw[HI.out.2.2,List.drop_of_length_le (by omega)]
     simp[Thk.Q7,zF]
    subst hRR
    go_wp2_with fail
    go_ret
    exact⟨rfl,HI.out.1⟩
 ·have hk':¬ (k:Int)<s.size:=by omega
  have hkd:decide ((k:Int)<s.size)=false:=by simpa using hk'
  rw[List.getElem?_eq_none (show s.data.toList.length≤k from by show s.size≤k;omega)]
  go_enter Tryz.func173,Tryz.ntmps173
  go_wp2_with fail
  go_loopg [7] 0 (fun mm v wr=>mm=0∧v = .int .i64 0∧Hid (Below w.heap.size w wr∧wr.heap[w.heap.size]? = some (qP 2 ia rs.length ic tx z pa m pc)))
  case atStart=>exact⟨rfl,rfl,zc _ _,zk _ _⟩
  case round=>
   obtain⟨rfl,rfl,HI⟩:=hrel
   have q:=z8 HI.out.2
   have ql:=za HI.out.2
   have hin':wr.cell? ⟨tb,2,none⟩=some (.string s):=by rw[HI.out.1.cell (p:=⟨tb,2,none⟩) htb];exact hin
   have htb':tb<wr.heap.size:=by have:=HI.out.1.size;omega
   by_cases h0:(0:Int)<rs.length
   ·go_wp2_with fail
    go_ret
    exact⟨rfl,HI.out.1⟩
   ·have h0':decide ((0:Int)<rs.length)=false:=by simpa using h0
    go_wp2_with fail
    go_ret
    exact⟨rfl,HI.out.1⟩
theorem zhm (a:UInt8) (l m:List UInt8) (c:UInt8):(a::l).isPrefixOf (c::m)=((a == c) && l.isPrefixOf m):=rfl
theorem zhr (w:World) (tb:Nat) (s:ByteArray) (k B:Nat) (rs:List Thk.zR) (ia:Option Addr) (ic:Nat) (tx:ByteArray) (z:Int) (pa:Option Addr) (m pc:Nat) (htb:tb<w.heap.size) (hin:w.cell? ⟨tb,2,none⟩=some (.string s)) (hs:s.size≤1000) (hit:Items w B (.slice ia rs.length ic) rs) (hl:rs.length≤1000) (hk:k≤s.size) :
  Calls Tryz.prog 173 #[.pointer (some ⟨tb,0,none⟩),exV 1 ia rs.length ic tx z pa m pc,.int .i64 k] w fun e w'=>e = .returned (.int .i64 (zF (if (rs.map (·.1)).isPrefixOf (s.data.toList.drop k) then some (k+rs.length) else none)))∧Below w.heap.size w w':=by
 obtain⟨pa2,pc2,hv,hc⟩:=hit.gen
 cases hv
 have HC:=z6 hc
 clear hit hc
 obtain⟨R,hR⟩:∃ R,R=zF (if (rs.map (·.1)).isPrefixOf (s.data.toList.drop k) then some (k+rs.length) else none):=⟨_,rfl⟩
 rw[← hR]
 have HR:Hid (R=zF (if ((rs.drop 0).map (·.1)).isPrefixOf (s.data.toList.drop (k+0)) then some (k+rs.length) else none)):=hR
 clear hR
 go_enter Tryz.func173,Tryz.ntmps173
 go_wp2_with fail
 go_loopg [8] rs.length (fun mm v wr=>∃ j:Nat,mm=rs.length - j∧v = .int .i64 j∧j≤rs.length∧Hid (Below w.heap.size w wr∧wr.heap[w.heap.size]? = some (qP 1 ia rs.length ic tx z pa m pc)∧R=zF (if ((rs.drop j).map (·.1)).isPrefixOf (s.data.toList.drop (k+j)) then some (k+rs.length) else none)))
 case atStart=>exact⟨0,by omega,rfl,by omega,zc _ _,zk _ _,HR.out⟩
 case round=>
  obtain⟨j,rfl,rfl,hj,HI⟩:=hrel
  have q:=z8 HI.out.2.1
  have ql:=za HI.out.2.1
  have hin':wr.cell? ⟨tb,2,none⟩=some (.string s):=by rw[HI.out.1.cell (p:=⟨tb,2,none⟩) htb];exact hin
  have htb':tb<wr.heap.size:=by have:=HI.out.1.size;omega
  by_cases hlt:j<rs.length
  ·have hlt':(j:Int)<rs.length:=by omega
   obtain⟨pg,rfl,hpg,c0,c1⟩:=HC.out j hlt
   have d0:wr.cell? ⟨pg,j * 2,none⟩=some (.int .u8 rs[j].1.toNat):=by rw[HI.out.1.cell (p:=⟨pg,_,none⟩) hpg];exact c0
   have hdr:(rs.drop j).map (·.1)=rs[j].1::(rs.drop (j+1)).map (·.1):=by rw[List.drop_eq_getElem_cons hlt];rfl
   clear c0 c1
   by_cases hin2:k+j<s.size
   ·have hin3:(k:Int)+j<s.size:=by omega
    have hin4:decide ((s.size:Int)≤(k:Int)+j)=false:=by simp;omega
    have hin5:¬ (s.size:Int)≤(k:Int)+j:=by omega
    have hcs:s.data.toList.drop (k+j)=s[k+j]::s.data.toList.drop (k+(j+1)):=by
     have h0:k+j<s.data.toList.length:=hin2
     rw[List.drop_eq_getElem_cons h0]
     congr 1
    have hst:((rs.drop j).map (·.1)).isPrefixOf (s.data.toList.drop (k+j))=((rs[j].1 == s[k+j]) && ((rs.drop (j+1)).map (·.1)).isPrefixOf (s.data.toList.drop (k+(j+1)))):=by
     rw[hdr,hcs,zhm]
    have HST:=z6 hst
    have hti:((k:Int)+(j:Int)).toNat=k+j:=by omega
    have hw:wrap64 ((k:Int)+(j:Int))=(k:Int)+j:=IntWalk.wrap64_in _ ⟨by omega,by omega⟩
    have hnn:(0:Int)≤(k:Int)+j:=by omega
    have hsg : ∀ h : ((k : Int) + (j : Int)).toNat < s.size, (s[((k : Int) + (j : Int)).toNat]'h) = s[k + j] := fun h => by congr 1
    generalize rs[j].1=lo at *
    clear hdr hcs hst
    by_cases h1:lo=s[k+j]
    ·have h1':(s[k+j].toNat:Int)=lo.toNat:=by rw[h1]
     have h1b:((s[k+j].toNat:Int) != (lo.toNat:Int))=false:=by rw[h1];simp
     have HN:Hid (R=zF (if ((rs.drop (j+1)).map (·.1)).isPrefixOf (s.data.toList.drop (k+(j+1))) then some (k+rs.length) else none)):=by
      show _=_
      rw[HI.out.2.2,HST.out,h1]
      simp
     clear h1 h1'
     go_wp2_with fail
     go_quiet (fail)
     go_wp2_with fail
     go_roundg (rs.length - (j+1))
     case measure=>omega
     case rel=>exact⟨j+1,rfl,by go_num,by omega,below_drewN HI.out.1 _,HI.out.2.1,HN.out⟩
    ·have h1n:¬ s[k+j].toNat=lo.toNat:=fun e=>h1 (UInt8.toNat_inj.1 e).symm
     have h1b:((s[k+j].toNat:Int) != (lo.toNat:Int))=true:=by rw[bne_iff_ne];omega
     have hRR:R = -1:=by
      rw[HI.out.2.2,HST.out]
      have:(lo == s[k+j])=false:=by simpa using h1
      rw[this];rfl
     subst hRR
     clear h1
     go_wp2_with fail
     go_quiet (fail)
     go_wp2_with fail
     go_ret
     exact⟨rfl,below_drewN HI.out.1 _⟩
   ·have hin3:(s.size:Int)≤(k:Int)+j:=by omega
    have hin4:decide ((s.size:Int)≤(k:Int)+j)=true:=by simp;omega
    have hw:wrap64 ((k:Int)+(j:Int))=(k:Int)+j:=IntWalk.wrap64_in _ ⟨by omega,by omega⟩
    have hRR:R = -1:=by
     rw[HI.out.2.2,hdr,List.drop_of_length_le (show s.data.toList.length≤k+j from by show s.size≤k+j;omega)]
     rfl
    subst hRR
    clear hdr
    go_wp2_with fail
    go_quiet (fail)
    go_wp2_with fail
    go_ret
    exact⟨rfl,below_drewN HI.out.1 _⟩
  ·have hlt':¬ (j:Int)<rs.length:=by omega
   have hRR:R=(k:Int)+rs.length:=by
    rw[HI.out.2.2,List.drop_of_length_le (by omega)]
    simp[zF]
   subst hRR
   go_wp2_with fail
   go_ret
   exact⟨rfl,HI.out.1⟩
structure Env (w0:World) (B gb:Nat) (vx vr:Value) (ps:List (Thk.RE × Value × Value)) (rs:List (Thk.z7 × Nat)) (s:ByteArray) (rbs:List Nat):Prop where
 gm:GM w0 B gb vx vr (ps.map (ZY (zj rs))) rs
 fits:K5 ps rs
 rpos : 0<rs.length
 rle:rs.length≤20
 ple:ps.length≤10000
 sle:s.size≤200
 len:rbs.length=ps.length
abbrev evS (ps:List (Thk.RE × Value × Value)) (rs:List (Thk.z7 × Nat)) (s:ByteArray):Nat→REv:=evR (zK ps) (zj rs) (Zp rs) s.data.toList
abbrev SndS (ps:List (Thk.RE × Value × Value)) (rs:List (Thk.z7 × Nat)) (s:ByteArray) (M:Tab):Prop:=Snd (zK ps) (zj rs) (Zp rs) s.data.toList M
structure Stt (w0:World) (tb eb ec:Nat) (vx vr:Value) (ps:List (Thk.RE × Value × Value)) (rs:List (Thk.z7 × Nat)) (s:ByteArray) (rbs:List Nat) (w:World):Prop where
 ex:∃ M,Y1 w0 w tb eb ec vx vr s rbs M∧SndS ps rs s M
theorem Stt.below {w0:World} {tb eb ec:Nat} {vx vr:Value} {ps:List (Thk.RE × Value × Value)} {rs:List (Thk.z7 × Nat)} {s:ByteArray} {rbs:List Nat} {w w':World} (h:Stt w0 tb eb ec vx vr ps rs s rbs w) (hb:Below w.heap.size w w'):Stt w0 tb eb ec vx vr ps rs s rbs w':=by
 obtain⟨M,h1,h2⟩:=h
 exact⟨M,h1.kept hb,h2⟩
def JM (w0:World) (tb eb ec:Nat) (vx vr:Value) (ps:List (Thk.RE × Value × Value)) (rs:List (Thk.z7 × Nat)) (s:ByteArray) (rbs:List Nat) (f:Nat):Prop:=
 ∀ (w:World) (i k:Nat) (v:Option Nat),Stt w0 tb eb ec vx vr ps rs s rbs w→k≤s.size→evS ps rs s f i k=some v →
  Calls Tryz.prog 112 #[.pointer (some ⟨tb,0,none⟩),.int .i64 i,.int .i64 k] w fun e w'=>e = .returned (.int .i64 (zF v))∧Stt w0 tb eb ec vx vr ps rs s rbs w'∧KpM rbs w.heap.size w w'
def zaU (w0:World) (tb eb ec:Nat) (vx vr:Value) (ps:List (Thk.RE × Value × Value)) (rs:List (Thk.z7 × Nat)) (s:ByteArray) (rbs:List Nat) (f:Nat):Prop:=
 ∀ (w:World) (i k:Nat) (v:Option Nat),Stt w0 tb eb ec vx vr ps rs s rbs w→k≤s.size→evS ps rs s f i k=some v →
  Calls Tryz.prog 148 #[.pointer (some ⟨tb,0,none⟩),.int .i64 i,.int .i64 k] w fun e w'=>e = .returned (.int .i64 (zF v))∧Stt w0 tb eb ec vx vr ps rs s rbs w'∧KpM rbs w.heap.size w w'
theorem Stt.exq {w0:World} {B gb tb eb ec:Nat} {vx vr:Value} {ps:List (Thk.RE × Value × Value)} {rs:List (Thk.z7 × Nat)} {s:ByteArray} {rbs:List Nat} {w:World} (hE:Env w0 B gb vx vr ps rs s rbs) (h:Stt w0 tb eb ec vx vr ps rs s rbs w) {k:Nat} {e:Thk.RE} (hx:(zK ps)[k]? = some e) (ho:okE (zj rs) e=true) :
  ∃ (xg xc:Nat) (ia:Option Addr) (ic:Nat) (pa:Option Addr) (pc:Nat),k<ps.length∧vx = .slice (some ⟨xg,0,none⟩) ps.length xc∧xg<w.heap.size∧w.cell? ⟨xg,k * 5,none⟩=some (.int .i64 e.kind)∧w.cell? ⟨xg,k * 5+1,none⟩=some (.slice ia e.items.length ic)∧w.cell? ⟨xg,k * 5+2,none⟩=some (.string ⟨e.text.toArray⟩)∧w.cell? ⟨xg,k * 5+3,none⟩=some (.int .i64 (rfE (zj rs) e 0))∧w.cell? ⟨xg,k * 5+4,none⟩=some (.slice pa e.parts.length pc) ∧
   e.parts.length≤9223372036854775807∧(∀ j (hj:j<e.parts.length),∃ pg,pa=some ⟨pg,0,none⟩∧pg<w0.heap.size∧w0.cell? ⟨pg,j,none⟩=some (.int .i64 e.parts[j]))∧Items w B (.slice ia e.items.length ic) e.items∧e.items.length≤20∧(∀ p ∈ e.parts,p<ps.length)∧(6<e.kind→∃ p,e.parts=[p])∧(e.kind=4→(zj rs).contains e.text=true):=by
 have hoE:e.items.length≤20∧(e.kind=4→(zj rs).contains e.text=true):=by
  simp only[okE,Bool.and_eq_true,decide_eq_true_eq,Bool.or_eq_true,bne_iff_ne] at ho
  exact⟨ho.1.2,fun h4=>ho.2.resolve_left (fun h=>h h4)⟩
 obtain⟨M,hT,_⟩:=h
 obtain⟨xg,xc,ia,ic,pa,pc,hi,rfl,hxl,c0,c1,c2,c3,c4,hpl,hpn,hpc,hit⟩:=hE.gm.exq hx
 have hs:=hT.size
 have hcell:∀ o,w.cell? ⟨xg,o,none⟩=w0.cell? ⟨xg,o,none⟩:=fun o=>World.cell?_of_block (a:=⟨xg,o,none⟩) (hT.old xg hxl)
 have hmem:∃ p ∈ ps,p.1=e:=by
  rw[List.getElem?_map,List.getElem?_eq_getElem hi] at hx
  exact⟨ps[k],List.getElem_mem hi,by simpa using hx⟩
 obtain⟨p,hp,rfl⟩:=hmem
 have hf:=hE.fits.ex p hp
 refine⟨xg,xc,ia,ic,pa,pc,hi,rfl,by omega,(hcell _).trans c0,(hcell _).trans c1,(hcell _).trans c2,(hcell _).trans c3,(hcell _).trans c4,hpn,hpc,Z6 hit (fun b hb=>hT.old b (hit.lt b hb).2),hoE.1,hf.1,hf.2.1,hoE.2⟩
theorem Stt.cells {w0:World} {tb eb ec:Nat} {vx vr:Value} {ps:List (Thk.RE × Value × Value)} {rs:List (Thk.z7 × Nat)} {s:ByteArray} {rbs:List Nat} {w:World} (h:Stt w0 tb eb ec vx vr ps rs s rbs w):tb<w.heap.size∧w0.heap.size≤w.heap.size∧(∀ b,b<w0.heap.size→w.heap[b]? = w0.heap[b]?)∧∀ o,w.cell? ⟨tb,o,none⟩=(#[vx,vr,.string s,.slice (some ⟨eb,0,none⟩) rbs.length ec]:Array Value)[o]? := by
 obtain⟨M,hT,_⟩:=h
 exact⟨zd hT.blk,hT.size,hT.old,z8 hT.blk⟩
theorem zjm {w0:World} {B gb tb eb ec:Nat} {vx vr:Value} {ps:List (Thk.RE × Value × Value)} {rs:List (Thk.z7 × Nat)} {s:ByteArray} {rbs:List Nat} (hE:Env w0 B gb vx vr ps rs s rbs) (w:World) (i k:Nat) (e:Thk.RE) (h:Stt w0 tb eb ec vx vr ps rs s rbs w) (hk:k≤s.size) (hx:(zK ps)[i]? = some e) (hok:okE (zj rs) e=true) (hkd:e.kind=1∨e.kind=2∨e.kind=3) :
  Calls Tryz.prog 148 #[.pointer (some ⟨tb,0,none⟩),.int .i64 i,.int .i64 k] w fun e' w'=>e' = .returned (.int .i64 (zF (Yh s.data.toList e k)))∧Stt w0 tb eb ec vx vr ps rs s rbs w'∧KpM rbs w.heap.size w w':=by
 obtain⟨xg,xc,ia,ic,pa,pc,hi,rfl,hxl,c0,c1,c2,c3,c4,hpn,hpc,hit,hil,_,_,_⟩:=h.exq hE hx hok
 obtain⟨htl,hsz,hold,q⟩:=h.cells
 have hsl:=hE.sle
 have hpl:=hE.ple
 have hil':(i:Int)<ps.length:=by omega
 have q2:=q 2
 have hb:∀ O:Obj,Calls Tryz.prog 173 #[.pointer (some ⟨tb,0,none⟩),exV e.kind ia e.items.length ic ⟨e.text.toArray⟩ (rfE (zj rs) e 0) pa e.parts.length pc,.int .i64 k] (w.alloc O) fun e' w'=>e' = .returned (.int .i64 (zF (Yh s.data.toList e k)))∧Below (w.alloc O).heap.size (w.alloc O) w':=by
  intro O
  have t1:tb<(w.alloc O).heap.size:=by simp;omega
  have t2:(w.alloc O).cell? ⟨tb,2,none⟩=some (.string s):=by rw[World.cell?_alloc_lt _ _ _ htl];exact q2
  have t3:=hit.below (zc w O)
  unfold Yh
  rcases hkd with hk1 | hk1 | hk1
  ·rw[if_neg (by omega),if_neg (by omega),hk1]
   exact zhr _ tb s k B e.items ia ic _ _ pa _ pc t1 t2 (by omega) t3 (by omega) hk
  ·rw[if_neg (by omega),if_pos hk1,hk1]
   exact zhs _ tb s k B e.items ia ic _ _ pa _ pc t1 t2 (by omega) t3 (by omega)
  ·rw[if_pos hk1,hk1]
   exact zht _ tb s k ia _ ic _ _ pa _ pc t1 t2 (by omega)
 have HB:=z6 hb
 have HST:=z6 h
 clear hb hit hpc h hx hE hok
 generalize zF (Yh s.data.toList e k)=R at *
 generalize e.items.length=il at *
 generalize e.parts.length=pl at *
 generalize rfE (zj rs) e 0=z at *
 generalize e.text=tx at *
 generalize e.kind=K at *
 rcases hkd with rfl | rfl | rfl
 all_goals
  go_enter Tryz.func148,Tryz.ntmps148
  go_wp2_with fail
  refine (HB.out _).mono ?_
  rintro _ w1 ⟨rfl,hb1⟩
  have HB1:=z6 ((zc w _).trans (hb1.mono (by simp)))
  clear hb1
  go_wp2_with fail
  go_ret
  exact⟨rfl,HST.out.below HB1.out,KpM.of_below HB1.out⟩
theorem Stt.fresh {w0:World} {tb eb ec:Nat} {vx vr:Value} {ps:List (Thk.RE × Value × Value)} {rs:List (Thk.z7 × Nat)} {s:ByteArray} {rbs:List Nat} {w:World} (h:Stt w0 tb eb ec vx vr ps rs s rbs w):∀ b ∈ rbs,b<w.heap.size:=by
 obtain⟨M,hT,_⟩:=h
 intro b hb
 obtain⟨i,hi,rfl⟩:=List.getElem_of_mem hb
 exact zd (hT.row i hi)
theorem KpM.own {rbs:List Nat} {w w1:World} {O:Obj} (hf:∀ b ∈ rbs,b<w.heap.size) (h:KpM rbs (w.alloc O).heap.size (w.alloc O) w1):w1.heap[w.heap.size]? = some O:=by
 rw[h.block _ (by simp) (fun hb=>by have:=hf _ hb;omega)]
 exact zk _ _
theorem KpM.alloc {rbs:List Nat} {w w1:World} {O:Obj} (h:KpM rbs (w.alloc O).heap.size (w.alloc O) w1):KpM rbs w.heap.size w w1:=KpM.go (KpM.of_below (zc w O)) h
theorem zjp {w0:World} {B gb tb eb ec:Nat} {vx vr:Value} {ps:List (Thk.RE × Value × Value)} {rs:List (Thk.z7 × Nat)} {s:ByteArray} {rbs:List Nat} (hE:Env w0 B gb vx vr ps rs s rbs) (f:Nat) (hT:JM w0 tb eb ec vx vr ps rs s rbs f) (w:World) (i k:Nat) (e:Thk.RE) (v:Option Nat) (h:Stt w0 tb eb ec vx vr ps rs s rbs w) (hk:k≤s.size) (hx:(zK ps)[i]? = some e) (hok:okE (zj rs) e=true) (hkd:e.kind=4) (hv:evS ps rs s f ((Zp rs).getD (idx0 (zj rs) e.text) 0) k=some v) :
  Calls Tryz.prog 148 #[.pointer (some ⟨tb,0,none⟩),.int .i64 i,.int .i64 k] w fun e' w'=>e' = .returned (.int .i64 (zF v))∧Stt w0 tb eb ec vx vr ps rs s rbs w'∧KpM rbs w.heap.size w w':=by
 obtain⟨xg,xc,ia,ic,pa,pc,hi,rfl,hxl,c0,c1,c2,c3,c4,hpn,hpc,hit,hil,_,_,hkn⟩:=h.exq hE hx hok
 obtain⟨htl,hsz,hold,q⟩:=h.cells
 have hpl:=hE.ple
 have hrl:=hE.rle
 have hil':(i:Int)<ps.length:=by omega
 have hcn:=hkn hkd
 have hrf:=KU (names:=zj rs) hkd
 rw[if_pos hcn] at hrf
 have hx0:idx0 (zj rs) e.text=(zj rs).idxOf e.text:=by unfold idx0;rw[if_pos hcn]
 rw[hx0] at hv
 have hxl2:(zj rs).idxOf e.text<rs.length:=by
  have:=List.idxOf_lt_length_iff.2 (show e.text ∈ zj rs by simpa using hcn)
  simpa using this
 rw[hrf] at c3
 obtain⟨x,hxx⟩:∃ x,x=(zj rs).idxOf e.text:=⟨_,rfl⟩
 rw[← hxx] at c3 hv hxl2
 have hbd:(Zp rs).getD x 0=rs[x].2:=by
  rw[List.getD_eq_getElem?_getD,List.getElem?_map,List.getElem?_eq_getElem hxl2];rfl
 rw[hbd] at hv
 obtain⟨rg,rc,hvr,_,hrgl⟩:=hE.gm.ruAt hE.rpos
 have hgm:=hE.gm
 subst hvr
 have d1:=(hgm.ruCells x hxl2).2
 have d1':w.cell? ⟨rg,x * 2+1,none⟩=some (.int .i64 rs[x].2):=by rw[World.cell?_of_block (a:=⟨rg,_,none⟩) (hold rg hrgl)];exact d1
 have hrg2:rg<w.heap.size:=by omega
 have hxl3:(x:Int)<rs.length:=by omega
 have hxn:¬ (x:Int)<0:=by omega
 have htry:=fun (O:Obj) (q:Nat)=>hT ((w.alloc O).drewN q) rs[x].2 k v (h.below (below_drewN (zc w O) q)) hk hv
 have HTR:=z6 htry
 have HF:=z6 h.fresh
 have q0:w.cell? ⟨tb,0,none⟩=some (.slice (some ⟨xg,0,none⟩) ps.length xc):=q 0
 have q1:w.cell? ⟨tb,1,none⟩=some (.slice (some ⟨rg,0,none⟩) rs.length rc):=q 1
 generalize rs[x].2=bd at *
 generalize zF v=R at *
 rw[hkd] at c0
 clear hok hit hpc h hx hE hkn hcn hrf hx0 hxx hbd hgm d1 htry hT hv q hold hkd
 generalize e.items.length=il at *
 generalize e.parts.length=pl at *
 generalize e.text=tx at *
 go_enter Tryz.func148,Tryz.ntmps148
 go_wp2_with fail
 go_region_with (go_at_call 112;refine (HTR.out _ 1).mono ?_;rintro _ w1 ⟨rfl,hs1,hk1⟩;have HS1:=z6 hs1;have HK1:=z6 hk1;clear hs1 hk1)
 all_goals go_wp2_with fail
 all_goals
  go_ret
  exact⟨rfl,HS1.out,KpM.go (KpM.of_below (below_drewN (zc w _) 1)) HK1.out⟩
end Go.Proofs.YtiganlkabilblaaGreatDoor
