import Derived.Test.YtiganlkabilblaaGreatDoorV35
import Derived.Test.YtiganlkabilblaaGreatDoorV18
import Derived.Test.YtiganlkabilblaaGreatDoorV13
import Derived.Deep.RegionHeldLaw
set_option linter.all false
set_option maxHeartbeats 64000000
set_option maxRecDepth 100000
namespace Go.Proofs.YtiganlkabilblaaGreatDoor
open Go.RowKit
attribute [local go_sem ↓] Go.wp_at_zero Go.wp_at_succ
theorem zdm {w:World} {ops:Array Oper} {rest:List Oper} {o:Oper} {a:Act} {Q:Exit→Act→World→Prop} (hgd:o.guard=none) (s x:Operand)
  (ho:o.op = .call { callee:=.builtin .append,args:=#[s,x],argTypes:=#[40,40] }) (B B2:Nat) (v xv:Value) (ns ms:List Nat) (hs:a.eval s=v) (hv:Q1 w B v ns) (hx:a.eval x=xv) (hxv:Ints w B2 xv ms) (hb:ns.length+ms.length≤200000) (hB:B≤w.heap.size)
  (h:∀ v' w',Q1 w' B v' (ns++ms)→Fr B w w'→wpList Tryz.prog ops Q rest (a.put o.dst v') w'):wpList Tryz.prog ops Q (o::rest) a w:=by
 refine wpList_plain hgd fun K hK'=>?_
 obtain⟨v',w',hrun,h1,h2⟩:=ziw o.type hv hxv hb hB
 unfold Oper.wp
 simp[execOp,ho,resolve,invoke,builtin,hs,hx,hrun,Result.andThen]
 exact hK' _ _ (h v' w' h1 h2)
theorem Q1.nil0 {w:World} {B:Nat} (ao:Option Addr):Q1 w B (.slice ao 0 0) []:=
 ⟨ao,0,0,0,rfl,⟨Nat.le_refl _,fun h=>absurd h (by omega),fun h=>absurd h (by omega),rfl,fun j u hu=>by simp at hu,fun j hj=>by simp at hj⟩,fun h=>absurd h (by omega),by omega⟩
theorem Q1.other {w w':World} {B:Nat} {v:Value} {ns:List Nat} (h:Q1 w B v ns) (hs:w.heap.size≤w'.heap.size) (hb:∀ k,k<w.heap.size→B≤k→w'.heap[k]? = w.heap[k]?):Q1 w' B v ns:=by
 obtain⟨ao,b,off,cap,h1,hc,h2,h3⟩:=h
 refine⟨ao,b,off,cap,h1,⟨hc.le,hc.addr,fun h=>Nat.lt_of_lt_of_le (hc.lt h) hs,hc.oldsLen,?_,?_⟩,h2,h3⟩
 ·intro j u hu
  have hj:j<ns.length:=by
   have:=(List.getElem?_eq_some_iff.1 hu).1
   simpa using this
  have hcp : 0<cap:=by have:=hc.le;omega
  rw[World.cell?_of_block (a:=⟨b,off+j,none⟩) (hb b (hc.lt hcp) (h2 hcp))]
  exact hc.olds j u hu
 ·intro j hj
  have:=hc.spare j hj
  have hcp : 0<cap:=by omega
  have hbl:=hb b (hc.lt hcp) (h2 hcp)
  rw[World.cell?_of_block (a:=⟨b,_,none⟩) hbl,World.frozen?_of_block (a:=⟨b,_,none⟩) hbl]
  exact this
structure U3 (w:World) (M:Mat) (n rule:Nat) (todo:List Nat) (seen:List Bool) (v:Value) (wr:World):Prop where
 below:Below w.heap.size w wr
 row:wr.heap[w.heap.size]? = some (zH seen)
 tv:Q1 wr (w.heap.size+1) v todo
 inv:JH M n rule todo seen
theorem zhV (w:World) (B gb lb:Nat) (vx vr:Value) (ps:List (Thk.RE × Value × Value)) (rs:List (Thk.z7 × Nat)) (l:List Bool) (M:Mat) (nx:Nat→List Nat) (rule:Nat) (h:GM w B gb vx vr (ps.map (ZY (zj rs))) rs) (hL:w.heap[lb]? = some (zH l)) (hrl:rs.length≤20) (hr:rule<rs.length)
  (hret:∀ k (hk:k<rs.length),qB B gb lb vx vr ps rs l rs[k].2 (nx k)) (hM:∀ k j,k<rs.length→(M k j=true↔j ∈ nx k)) (hn:∀ k j,k<rs.length→j ∈ nx k→j<rs.length) (hb:∀ k,k<rs.length→(nx k).length≤3000) :
  Calls Tryz.prog 68 #[.pointer (some ⟨gb,0,none⟩),.int .i64 rule,.slice (some ⟨lb,0,none⟩) ps.length ps.length] w fun e w'=>e = .returned (.bool (Wm M rs.length rule rule))∧Below w.heap.size w w':=by
 obtain⟨rg,rc,rfl,hrB,hrgl⟩:=h.ruAt (by omega)
 have hgl:=h.lt
 have hlb:=za hL
 have q:=z8 h.blk
 have hmk:=zbN rs.length (by omega) w
 obtain⟨d0,d1⟩:=h.ruCells rule hr
 have hrI:(rule:Int)<rs.length:=by omega
 have hBW:=zc w (zH (List.replicate rs.length false))
 have hcall:=hret rule hr _ (h.below hBW) (by rw[hBW.block _ hlb];exact hL)
 have hWb:(w.alloc (zH (List.replicate rs.length false))).heap[w.heap.size]? = some (zH (List.replicate rs.length false)):=zk _ _
 have HRET:=z6 hret
 have HMI:=z6 hM
 have HN:=z6 hn
 have HBD:=z6 hb
 have HG:=z6 h
 have HL:=z6 hL
 have HBW:=z6 hBW
 have HWB:=z6 hWb
 clear hret hM hn hb h hL d0 hBW hWb
 go_enter Tryz.func68,Tryz.ntmps68
 go_wp2_with fail
 refine hcall.mono ?_
 rintro _ w2 ⟨v2,rfl,hint,hb2⟩
 have hz2:=hb2.size
 simp at hz2
 have HST:Hid (U3 w M rs.length rule (nx rule) (List.replicate rs.length false) v2 w2):=by
  refine⟨HBW.out.trans (hb2.mono (by simp)),by rw[hb2.block _ (by simp)];exact HWB.out,Q1.ofInts ?_,JH.start (fun k=>HMI.out rule k hr) (fun k hk=>HN.out rule k hr hk)⟩
  have:=hint
  simpa using this
 have hun:QO (List.replicate rs.length false)=rs.length:=by simp[QO]
 have HUN:=z6 hun
 have hnb:=HBD.out rule hr
 clear hcall hint hb2 hun
 go_wp2_with fail
 go_loopg [8,9] (3001 * (rs.length+1)) (fun m vt vk wr=>∃ (todo:List Nat) (seen:List Bool),todo.length+3001 * QO seen≤m∧m≤70000∧Hid (U3 w M rs.length rule todo seen vt wr))
 case atStart=>exact⟨nx rule,List.replicate rs.length false,by rw[HUN.out];omega,by omega,HST⟩
 case round=>
  obtain⟨todo,seen,hm1,hm2,HI⟩:=hrel
  have HM1:=z6 (And.intro hm1 hm2)
  clear hm1 hm2
  cases todo with
  | nil=>
   have hd:=HI.out.inv.done
   obtain⟨ao,b,off,cap,hv,_⟩:=HI.out.tv
   subst hv
   have HD:=z6 hd
   clear hd
   go_wp2_with fail
   go_ret
   exact⟨congrArg (fun b=>Ending.returned (Value.bool b)) HD.out.symm,HI.out.below⟩
  | cons k rest=>
   obtain⟨b,off,cap,hv,hbB,hbl,hck,hcm,hcl,htd⟩:=HI.out.tv.tail
   subst hv
   obtain⟨hreach,hkn⟩:=HI.out.inv.reach k (by simp)
   have hcm':(cap:Int)+1≤9223372036854775807:=by unfold maxLen at hcm;omega
   have qg0:=q
   rcases Nat.eq_zero_or_pos cap with h0 | h0
   ·subst h0
    have hrest:rest=[]:=List.length_eq_zero_iff.1 (by omega)
    subst hrest
    have HTD:Hid (Q1 wr (w.heap.size+1) (.slice (some ⟨b,off,none⟩) 0 0) []):=Q1.nil0 _
    clear hcl
    have HRE:=z6 hreach
    clear htd hcm hreach hcm' hnb
    have hsz:=za HI.out.row
    have hsc:=Y4 HI.out.row k (by rw[HI.out.inv.len];exact hkn)
    have hsf:=zi HI.out.row k
    have hkI:(k:Int)<rs.length:=by omega
    by_cases hkr:k=rule
    ·subst hkr
     clear hsc hsf
     go_wp2_with fail
     go_ret
     exact⟨congrArg (fun b=>Ending.returned (Value.bool b)) HRE.out.symm,HI.out.below⟩
    ·have hkr':¬ (k:Int)=rule:=by omega
     cases hs:seen.getD k false with
     | true=>
      rw[hs] at hsc
      have HSK:=z6 (HI.out.inv.skip hs)
      go_wp2_with fail
      go_roundg (0+3001 * QO seen)
      case measure=>have:=HM1.out;simp at this;omega
      case rel=>exact⟨[],seen,by simp,by have:=HM1.out;simp at this;omega,HI.out.below,HI.out.row,HTD.out,HSK.out⟩
     | false=>
      rw[hs] at hsc
      have hus:=qk seen k (by rw[HI.out.inv.len];exact hkn) hs
      have hnb:=HBD.out k hkn
      have HST2:=z6 (HI.out.inv.step hkr (fun j=>HMI.out k j hkn) (fun j hj=>HN.out k j hkn hj))
      have hB2:Below w.heap.size w (wr.setCell ⟨w.heap.size,k,none⟩ (.bool true)):=HI.out.below.setCell (p:=⟨w.heap.size,k,none⟩) (Nat.le_refl _) _
      have hR2:=qJ HI.out.row k
      have hcall:=HRET.out k hkn _ (HG.out.below hB2) (by rw[hB2.block _ hlb];exact HL.out)
      have qg:=z8 (((HI.out.below.block gb hgl).trans HG.out.blk))
      have dk:wr.cell? ⟨rg,k * 2+1,none⟩=some (.int .i64 rs[k].2):=by
       rw[World.cell?_of_block (a:=⟨rg,_,none⟩) (HI.out.below.block rg hrgl)]
       exact (HG.out.ruCells k hkn).2
      have hne1:¬ gb=w.heap.size:=by omega
      have hne2:¬ rg=w.heap.size:=by omega
      have HB2:=z6 hB2
      have HR2:=z6 hR2
      have HNB:=z6 hnb
      have HUS:=z6 hus
      have HTD2:Hid (Q1 (wr.setCell ⟨w.heap.size,k,none⟩ (.bool true)) (w.heap.size+1) (.slice (some ⟨b,off,none⟩) 0 0) []):=HTD.out.other (by simp) (fun j _ hj=>Below.heap_setCell _ _ _ _ (by show j≠w.heap.size;omega))
      have HLEN:Hid (([]:List Nat).length+(nx k).length≤200000):=by show _≤_;simp;omega
      clear hB2 hR2 hnb hus q qg0
      go_wp2_with (first
       | (at_builtin;refine zdm rfl _ _ rfl (w.heap.size+1) _ _ _ [] (nx k) rfl (HTD2.out.kept hb3) rfl hint3 HLEN.out (by have:=hb3.size;simp at this;omega) ?_)
       | (go_at_call 104;refine hcall.mono ?_;rintro _ w3 ⟨v3,rfl,hint3,hb3⟩))
      intro v4 w4 htd4 hfr4
      have hz3:=hb3.size
      simp at hz3
      have hz4:=hfr4.size
      have HNEW:Hid (U3 w M rs.length rule ([]++nx k) (seen.set k true) v4 w4):=by
       refine⟨⟨hfr4.os.trans (hb3.os.trans HB2.out.os),hfr4.tape.trans (hb3.tape.trans HB2.out.tape),hfr4.output.trans (hb3.output.trans HB2.out.output),by have:=HB2.out.size;simp at this;omega,fun j hj=>?_⟩,?_,htd4,HST2.out⟩
       ·rw[hfr4.block j (by omega) (by omega),hb3.block j (by simp;omega)]
        exact HB2.out.block j hj
       ·rw[hfr4.block _ (by omega) (by omega),hb3.block _ (by simp;omega)]
        exact HR2.out
      clear hcall hint3 hb3 htd4 hfr4
      go_wp2_with fail
      go_roundg (([]++nx k).length+3001 * QO (seen.set k true))
      case measure=>have h1:=HM1.out;have h2:=HUS.out;have h3:=HNB.out;simp at h1 ⊢;omega
      case rel=>exact⟨[]++nx k,seen.set k true,Nat.le_refl _,by have h1:=HM1.out;have h2:=HUS.out;have h3:=HNB.out;simp at h1 ⊢;omega,HNEW⟩
   ·have hcap:¬ cap=0:=by omega
    have HTD:=z6 htd
    have HRE:=z6 hreach
    clear htd hcm hreach hcm' hnb
    have hsz:=za HI.out.row
    have hsc:=Y4 HI.out.row k (by rw[HI.out.inv.len];exact hkn)
    have hsf:=zi HI.out.row k
    have hkI:(k:Int)<rs.length:=by omega
    by_cases hkr:k=rule
    ·subst hkr
     clear hsc hsf
     go_wp2_with fail
     go_ret
     exact⟨congrArg (fun b=>Ending.returned (Value.bool b)) HRE.out.symm,HI.out.below⟩
    ·have hkr':¬ (k:Int)=rule:=by omega
     cases hs:seen.getD k false with
     | true=>
      rw[hs] at hsc
      have HSK:=z6 (HI.out.inv.skip hs)
      go_wp2_with fail
      go_roundg (rest.length+3001 * QO seen)
      case measure=>have:=HM1.out;simp at this;omega
      case rel=>exact⟨rest,seen,Nat.le_refl _,by have:=HM1.out;simp at this;omega,HI.out.below,HI.out.row,HTD.out,HSK.out⟩
     | false=>
      rw[hs] at hsc
      have hus:=qk seen k (by rw[HI.out.inv.len];exact hkn) hs
      have hnb:=HBD.out k hkn
      have HST2:=z6 (HI.out.inv.step hkr (fun j=>HMI.out k j hkn) (fun j hj=>HN.out k j hkn hj))
      have hB2:Below w.heap.size w (wr.setCell ⟨w.heap.size,k,none⟩ (.bool true)):=HI.out.below.setCell (p:=⟨w.heap.size,k,none⟩) (Nat.le_refl _) _
      have hR2:=qJ HI.out.row k
      have hcall:=HRET.out k hkn _ (HG.out.below hB2) (by rw[hB2.block _ hlb];exact HL.out)
      have qg:=z8 (((HI.out.below.block gb hgl).trans HG.out.blk))
      have dk:wr.cell? ⟨rg,k * 2+1,none⟩=some (.int .i64 rs[k].2):=by
       rw[World.cell?_of_block (a:=⟨rg,_,none⟩) (HI.out.below.block rg hrgl)]
       exact (HG.out.ruCells k hkn).2
      have hne1:¬ gb=w.heap.size:=by omega
      have hne2:¬ rg=w.heap.size:=by omega
      have HB2:=z6 hB2
      have HR2:=z6 hR2
      have HNB:=z6 hnb
      have HUS:=z6 hus
      have HTD2:Hid (Q1 (wr.setCell ⟨w.heap.size,k,none⟩ (.bool true)) (w.heap.size+1) (.slice (some ⟨b,off+1,none⟩) rest.length cap) rest):=HTD.out.other (by simp) (fun j _ hj=>Below.heap_setCell _ _ _ _ (by show j≠w.heap.size;omega))
      have HLEN:Hid (rest.length+(nx k).length≤200000):=by have h1:=HM1.out;simp at h1;show _≤_;omega
      clear hB2 hR2 hnb hus q qg0
      go_wp2_with (first
       | (at_builtin;refine zdm rfl _ _ rfl (w.heap.size+1) _ _ _ rest (nx k) rfl (HTD2.out.kept hb3) rfl hint3 HLEN.out (by have:=hb3.size;simp at this;omega) ?_)
       | (go_at_call 104;refine hcall.mono ?_;rintro _ w3 ⟨v3,rfl,hint3,hb3⟩))
      intro v4 w4 htd4 hfr4
      have hz3:=hb3.size
      simp at hz3
      have hz4:=hfr4.size
      have HNEW:Hid (U3 w M rs.length rule (rest++nx k) (seen.set k true) v4 w4):=by
       refine⟨⟨hfr4.os.trans (hb3.os.trans HB2.out.os),hfr4.tape.trans (hb3.tape.trans HB2.out.tape),hfr4.output.trans (hb3.output.trans HB2.out.output),by have:=HB2.out.size;simp at this;omega,fun j hj=>?_⟩,?_,htd4,HST2.out⟩
       ·rw[hfr4.block j (by omega) (by omega),hb3.block j (by simp;omega)]
        exact HB2.out.block j hj
       ·rw[hfr4.block _ (by omega) (by omega),hb3.block _ (by simp;omega)]
        exact HR2.out
      clear hcall hint3 hb3 htd4 hfr4
      go_wp2_with fail
      go_roundg ((rest++nx k).length+3001 * QO (seen.set k true))
      case measure=>have h1:=HM1.out;have h2:=HUS.out;have h3:=HNB.out;simp at h1 ⊢;omega
      case rel=>exact⟨rest++nx k,seen.set k true,Nat.le_refl _,by have h1:=HM1.out;have h2:=HUS.out;have h3:=HNB.out;simp at h1 ⊢;omega,HNEW⟩
theorem ziZ (a b:Thk.z7):(ByteArray.mk a.toArray=ByteArray.mk b.toArray)↔a=b:=by
 constructor
 ·intro h
  have:=congrArg (fun x=>x.data.toList) h
  simpa using this
 ·intro h;rw[h]
abbrev Jj (rs:List (Thk.z7 × Nat)):List Thk.z7:=rs.map (·.1)
structure zaP (w:World) (B gb xg n xc:Nat) (vr:Value) (names:List Thk.z7) (ps:List (Thk.RE × Value × Value)) (rs:List (Thk.z7 × Nat)) (i:Nat) (qs:List (Thk.RE × Value × Value)) (wr:World):Prop where
 mem:GM wr B gb (.slice (some ⟨xg,0,none⟩) n xc) vr qs rs
 at_:Ku names ps qs i
 below:Below B w wr
theorem zhY (w:World) (B gb:Nat) (vx vr:Value) (ps:List (Thk.RE × Value × Value)) (rs:List (Thk.z7 × Nat)) (h:GM w B gb vx vr ps rs) (h0 : 0<ps.length) (h1 : 0<rs.length) (hl:rs.length≤20) (hpl:ps.length≤100000) :
  Calls Tryz.prog 65 #[.pointer (some ⟨gb,0,none⟩)] w fun e w'=>e = .returned (.tuple #[])∧GM w' B gb vx vr (ps.map (ZY (rs.map (·.1)))) rs∧Below B w w':=by
 obtain⟨xg,xc,rfl,hxB,hxl,hmx⟩:=h.exAt h0
 obtain⟨rg,rc,rfl,hrB,hrl⟩:=h.ruAt h1
 have HST:Hid (zaP w B gb xg ps.length xc (.slice (some ⟨rg,0,none⟩) rs.length rc) (rs.map (·.1)) ps rs 0 ps w):=⟨h,⟨rfl,fun j hj=>by omega,fun _ _=>rfl⟩,Below.refl _ _⟩
 clear h
 go_enter Tryz.func65,Tryz.ntmps65
 go_wp2_with fail
 go_loopg [2] ps.length (fun m v wr=>∃ (i:Nat) (qs:List (Thk.RE × Value × Value)),m=ps.length - i∧v = .int .i64 i∧i≤ps.length∧Hid (zaP w B gb xg ps.length xc (.slice (some ⟨rg,0,none⟩) rs.length rc) (rs.map (·.1)) ps rs i qs wr))
 case atStart=>exact⟨0,ps,by omega,rfl,by omega,HST⟩
 case round=>
  obtain⟨i,qs,rfl,rfl,hi,HR⟩:=hrel
  have q:=z8 HR.out.mem.blk
  have hql:=HR.out.at_.len
  by_cases hlt:i<ps.length
  ·have hlt':(i:Int)<ps.length:=by omega
   have hiq:i<qs.length:=by omega
   have hc:=HR.out.mem.exCells.2 i hiq
   have hf:=HR.out.mem.exCells.1
   obtain⟨c0,c1,c2,c3,c4⟩:=hc
   have hgx:gb≠xg:=by
    intro e;subst e
    obtain⟨cs,hb⟩:=Qw HR.out.mem.ex (b:=gb) rfl
    rw[HR.out.mem.blk] at hb;simp at hb
   have hm1:rfE (Jj rs) qs[i].1 rs.length = -1:=by unfold rfE;split;exact zhS _ _ _ (by simp[Jj]);rfl
   have HM:=z6 (HR.out.mem.setRule hiq (rfE (Jj rs) qs[i].1 rs.length))
   have HB:=z6 (HR.out.below.setCell (p:=⟨xg,i * 5+3,none⟩) hxB (.int .i64 (rfE (Jj rs) qs[i].1 rs.length)))
   have HM1:=z6 hm1
   rw[hm1] at HM HB
   have hf3:=hf (i * 5+3)
   have HAT:=z6 HR.out.at_
   clear hm1 hf c0 c1 c2 c4
   go_wp2_with fail
   go_loopg [3] rs.length (fun m v wr=>∃ k:Nat,m=k∧v = .int .i64 ((k:Int) - 1)∧k≤rs.length∧Hid (GM wr B gb (.slice (some ⟨xg,0,none⟩) ps.length xc) (.slice (some ⟨rg,0,none⟩) rs.length rc) (qs.set i ({ qs[i].1 with rule:=rfE (Jj rs) qs[i].1 k },qs[i].2)) rs∧Below B w wr))
   case atStart=>exact⟨rs.length,rfl,by go_num,Nat.le_refl _,by rw[HM1.out];exact⟨HM.out,HB.out⟩⟩
   case round=>
    obtain⟨k,hmk,rfl,hk,HI⟩:=hrel
    have hisl:i<(qs.set i ({ qs[i].1 with rule:=rfE (Jj rs) qs[i].1 k },qs[i].2)).length:=by simpa using hiq
    have hc:=HI.out.1.exCells.2 i hisl
    simp only[List.getElem_set_self] at hc
    obtain⟨c0,c1,c2,c3,c4⟩:=hc
    have q2:=z8 HI.out.1.blk
    have hf2:=HI.out.1.exCells.1 (i * 5+3)
    by_cases hm0:k=0
    ·subst hm0
     have HN:=z6 (HAT.out.next hiq)
     clear c1 c2 c3 c4 hf2
     go_wp2_with fail
     go_roundg (ps.length - (i+1))
     case measure=>omega
     case rel=>exact⟨i+1,_,rfl,by go_num,by omega,⟨HI.out.1,HN.out,HI.out.2⟩⟩
    ·obtain⟨t,rfl⟩:∃ t,k=t+1:=⟨k - 1,by omega⟩
     have ht:t<rs.length:=by omega
     have hr:=HI.out.1.ruCells t ht
     obtain⟨d0,d1⟩:=hr
     have ht':(t:Int)<rs.length:=by omega
     have hstep:=zhT (Jj rs) qs[i].1.text t (by simpa [Jj] using ht)
     simp only[Jj,List.getElem_map] at hstep
     have HSTEP:=z6 hstep
     have e1:((t+1:Nat):Int) - 1=t:=by omega
     rw[e1]
     clear hstep c1 c4 d1
     by_cases hk4:qs[i].1.kind=4
     ·rw[hk4] at c0
      by_cases hnm:rs[t].1=qs[i].1.text
      ·have hnm':(ByteArray.mk rs[t].1.toArray=ByteArray.mk qs[i].1.text.toArray):=by rw[hnm]
       have HS:=z6 (HI.out.1.setRule hisl t)
       have HSB:=z6 (HI.out.2.setCell (p:=⟨xg,i * 5+3,none⟩) hxB (.int .i64 t))
       simp only[List.getElem_set_self,List.set_set] at HS
       have hrt:rfE (Jj rs) qs[i].1 t=t:=by
        unfold rfE;rw[if_pos hk4,HSTEP.out,if_pos hnm]
       go_wp2_with fail
       go_quiet (fail)
       go_wp2_with fail
       go_roundg t
       case measure=>omega
       case rel=>exact⟨t,rfl,by go_num,by omega,by rw[hrt];exact⟨HS.out.kept (fun _ _=>rfl),(below_drewN HI.out.2 _).setCell hxB _⟩⟩
      ·have hnm2:(rs[t].1 == qs[i].1.text)=false:=by simpa using hnm
       have hnm':decide (ByteArray.mk rs[t].1.toArray=ByteArray.mk qs[i].1.text.toArray)=false:=by
        rw[decide_eq_false_iff_not,ziZ];exact hnm
       have hrt:rfE (Jj rs) qs[i].1 (t+1)=rfE (Jj rs) qs[i].1 t:=by
        unfold rfE;rw[if_pos hk4,if_pos hk4,HSTEP.out,if_neg hnm]
       go_wp2_with fail
       go_quiet (fail)
       go_wp2_with fail
       go_roundg t
       case measure=>omega
       case rel=>exact⟨t,rfl,by go_num,by omega,by rw[← hrt];exact⟨HI.out.1.kept (fun _ _=>rfl),below_drewN HI.out.2 _⟩⟩
     ·have hk4':decide ((qs[i].1.kind:Int)=4)=false:=by simp;omega
      have hk5':((qs[i].1.kind:Int) == 4)=false:=by simp;omega
      have hk6':(qs[i].1.kind == 4)=false:=by simpa using hk4
      have hrt:rfE (Jj rs) qs[i].1 (t+1)=rfE (Jj rs) qs[i].1 t:=by
       unfold rfE;rw[if_neg hk4,if_neg hk4]
      go_wp2_with fail
      go_quiet (fail)
      go_wp2_with fail
      go_roundg t
      case measure=>omega
      case rel=>exact⟨t,rfl,by go_num,by omega,by rw[← hrt];exact⟨HI.out.1.kept (fun _ _=>rfl),below_drewN HI.out.2 _⟩⟩
  ·have hie:i=ps.length:=by omega
   have hlt':¬ (i:Int)<ps.length:=by omega
   go_wp2_with fail
   go_end0
   refine⟨rfl,?_,HR.out.below⟩
   have:=HR.out.at_
   rw[hie] at this
   rw[← this.done];exact HR.out.mem
end Go.Proofs.YtiganlkabilblaaGreatDoor
namespace Go.Proofs.YtiganlkabilblaaGreatDoor
open Go.RowKit
def EvW (w w':World):Prop:=∀ a:Addr,(w.cell? a).isSome=true→(w'.cell? a).isSome=true∧w'.frozen? a=w.frozen? a
theorem EvW.trans {a b c:World} (h:EvW a b) (k:EvW b c):EvW a c:=fun x hx=>⟨(k x (h x hx).1).1,((k x (h x hx).1).2).trans (h x hx).2⟩
theorem EvW.alloc (w:World) (o:Obj):EvW w (w.alloc o):=fun a ha=>by
 obtain⟨u,hu⟩:=Option.isSome_iff_exists.1 ha
 have hlt:=World.block_lt_of_cell? w a hu
 exact⟨by rw[World.cell?_alloc_lt _ _ _ hlt];exact ha,World.frozen?_alloc_old _ _ _ (by omega)⟩
theorem EvW.setCell (w:World) (p:Addr) (u:Value):EvW w (w.setCell p u):=by
 intro a ha
 refine⟨?_,World.frozen?_setCell _ _ _ _⟩
 by_cases hp:p=a
 ·subst hp
  rw[World.cell?_setCell_same' _ _ _ ha];rfl
 ·rw[World.cell?_setCell_other _ _ _ _ hp];exact ha
theorem EvW.setCells (b:Nat) (vs:List Value) (o:Nat) (w:World) (hs:∀ j,j<vs.length→(w.cell? ⟨b,o+j,none⟩).isSome=true):EvW w (w.setCells b o vs):=by
 intro a ha
 refine⟨?_,World.frozen?_setCells b vs o w a⟩
 by_cases h:a.block=b∧a.spot=none∧o≤a.off∧a.off<o+vs.length
 ·obtain⟨h1,h2,h3,h4⟩:=h
  obtain⟨j,hj⟩:∃ j,a.off=o+j:=⟨a.off - o,by omega⟩
  have e:a=⟨b,o+j,none⟩:=by cases a;simp_all
  rw[e,World.cell?_setCells_in b vs o w hs j (by omega)];rfl
 ·rw[World.cell?_setCells_out b vs o w a (fun e1 e2=>by
   by_cases h3:a.off<o
   ·exact .inl h3
   ·exact .inr (by
     by_cases h4:a.off<o+vs.length
     ·exact absurd ⟨e1,e2,by omega,h4⟩ h
     ·omega))]
  exact ha
section
variable {P : Nat → Prop} {sz : Nat}
def J4 (P:Nat→Prop) (sz:Nat) (w:World) (v:Value) (n:Nat):Prop:=∃ ao b cap,v = .slice ao n cap∧(0<n→ao=some ⟨b,0,none⟩∧P b∧b<w.heap.size)∧n≤maxLen∧∀ j,j<n * sz→(w.cell? ⟨b,j,none⟩).isSome=true∧w.frozen? ⟨b,j,none⟩=false
theorem J4.ev {w w':World} {v:Value} {n:Nat} (h:J4 P sz w v n) (he:EvW w w') (hs:w.heap.size≤w'.heap.size):J4 P sz w' v n:=by
 obtain⟨ao,b,cap,h1,h2,h3,h4⟩:=h
 refine⟨ao,b,cap,h1,fun hn=>?_,h3,fun j hj=>?_⟩
 ·obtain⟨a1,a2,a3⟩:=h2 hn
  exact⟨a1,a2,by omega⟩
 ·obtain⟨a1,a2⟩:=h4 j hj
  obtain⟨b1,b2⟩:=he _ a1
  exact⟨b1,b2.trans a2⟩
structure JK (P:Nat→Prop) (sz:Nat) (w:World) (ao:Option Addr) (b n cap:Nat) (olds:List Value):Prop where
 came:Came w sz ao b 0 n cap olds
 pb : 0<cap→P b
 max:cap≤maxLen
 fz:∀ j,j<n * sz→w.frozen? ⟨b,j,none⟩=false
theorem JK.room {w:World} {ao:Option Addr} {b n cap:Nat} {olds:List Value} (h:JK P sz w ao b n cap olds):J4 P sz w (.slice ao n cap) n:=by
 have hle:=h.came.le
 refine⟨ao,b,cap,rfl,fun hn=>⟨h.came.addr (by omega),h.pb (by omega),h.came.lt (by omega)⟩,by have:=h.max;omega,fun j hj=>⟨?_,h.fz j hj⟩⟩
 have ho:=h.came.oldsLen
 obtain⟨u,hu⟩:∃ u,olds[j]? = some u:=⟨_,List.getElem?_eq_getElem (by omega)⟩
 have:=h.came.olds j u hu
 rw[Nat.zero_add] at this
 rw[this];rfl
structure GrW (w w':World) (row:Nat→Prop):Prop where
 os:w'.os=w.os
 tape:w'.tape=w.tape
 output:w'.output=w.output
 size:w.heap.size≤w'.heap.size
 block:∀ k,k<w.heap.size→¬ row k→w'.heap[k]? = w.heap[k]?
theorem JK.ev {w w':World} {ao:Option Addr} {b n cap:Nat} {olds:List Value} (h:JK P sz w ao b n cap olds) (he:EvW w w') (hs:w.heap.size≤w'.heap.size) (ho:∀ j u,olds[j]? = some u→w'.cell? ⟨b,j,none⟩=some u):JK P sz w' ao b n cap olds:=by
 have hc:=h.came
 refine⟨⟨hc.le,hc.addr,fun h=>Nat.lt_of_lt_of_le (hc.lt h) hs,hc.oldsLen,fun j u hu=>by rw[Nat.zero_add];exact ho j u hu,fun j hj=>?_⟩,h.pb,h.max,fun j hj=>?_⟩
 ·have:=hc.spare j hj
  have h2:=he _ this.1
  exact⟨h2.1,h2.2.trans this.2⟩
 ·obtain⟨u,hu⟩:∃ u,olds[j]? = some u:=⟨_,List.getElem?_eq_getElem (by rw[hc.oldsLen];exact hj)⟩
  have h1:=hc.olds j u hu
  rw[Nat.zero_add] at h1
  have h2:=he ⟨b,j,none⟩ (by rw[h1];rfl)
  exact h2.2.trans (h.fz j hj)
theorem ziv {T TS:TypeId} {z:Value} {i0:TypeInfo} (hu:Tryz.prog.underlying TS=some (.slice T)) (hi:Tryz.prog.info? T=some i0) (hz0:i0.zero=some z) (hz1:i0.size=sz) (hz2:i0.bytes≤100) {w:World} {ao:Option Addr} {b n cap:Nat} {olds:List Value} (ty:TypeId) (h:JK P sz w ao b n cap olds) (xv:Value) (k:Nat) (news:List Value) (hs:Src Tryz.prog sz TS xv k news w) (hk : 0<k) (hb:n+k≤100000) (hP:∀ x,w.heap.size≤x→P x) :
  ∃ ao' cap' w',(Builtin.append_ #[TS,TS] ty #[.slice ao n cap,xv]).run Tryz.prog w = .ok (.slice ao' (n+k) cap') w'∧J4 P sz w' (.slice ao' (n+k) cap') (n+k)∧EvW w w'∧JK P sz w' ao b n cap olds∧GrW w w' (fun x=>x=b∧0<cap):=by
 have hc:=h.came
 have hle:=hc.le
 have hnl:=hs.newsLen
 rw[← hz1] at hs
 by_cases hfit:n+k≤cap
 ·have hcap : 0<cap:=by omega
  have hao:=hc.addr hcap
  subst hao
  have hsp:∀ j,j<news.length→(w.cell? ⟨b,0+n * i0.size+j,none⟩).isSome=true∧w.frozen? ⟨b,0+n * i0.size+j,none⟩=false:=by
   intro j hj
   rw[hz1];exact hc.spare j (by have:=Nat.mul_le_mul_right sz hfit;rw[Nat.add_mul] at this;rw[Nat.sub_mul];omega)
  have hrun:=run_append_room_src (P:=Tryz.prog) w TS TS ty T i0 hu hi b 0 n cap xv k news hs hfit (fun j hj=>(hsp j hj).1) (fun j hj=>(hsp j hj).2)
  obtain⟨ht,hsz⟩:=zar b news (0+n * i0.size) w
  have hev:=EvW.setCells b news (0+n * i0.size) w (fun j hj=>(hsp j hj).1)
  have holds:∀ j u,olds[j]? = some u→(w.setCells b (0+n * i0.size) news).cell? ⟨b,j,none⟩=some u:=by
   intro j u hu
   have hj:j<n * sz:=by
    have:=(List.getElem?_eq_some_iff.1 hu).1
    rw[hc.oldsLen] at this;exact this
   rw[World.cell?_setCells_out b _ _ _ _ (fun _ _=>Or.inl (by show j<_;rw[hz1];omega))]
   have:=hc.olds j u hu
   rw[Nat.zero_add] at this
   exact this
  refine⟨_,_,_,hrun,⟨_,b,cap,rfl,fun _=>⟨rfl,h.pb hcap,by rw[hsz];exact hc.lt hcap⟩,by unfold maxLen;omega,fun j hj=>?_⟩,hev,h.ev hev (by rw[hsz];exact Nat.le_refl _) holds,⟨World.os_setCells _ _ _ _,ht,World.output_setCells _ _ _ _,by rw[hsz];exact Nat.le_refl _,fun x hx hr=>World.heap_setCells_other _ _ _ _ hx (fun e=>hr ⟨e,hcap⟩)⟩⟩
  by_cases hj2:j<n * sz
  ·obtain⟨u,hu⟩:∃ u,olds[j]? = some u:=⟨_,List.getElem?_eq_getElem (by rw[hc.oldsLen];exact hj2)⟩
   have h1:=hc.olds j u hu
   rw[Nat.zero_add] at h1
   have h2:=hev ⟨b,j,none⟩ (by rw[h1];rfl)
   exact⟨h2.1,h2.2.trans (h.fz j hj2)⟩
  ·have:=hsp (j - n * sz) (by rw[hnl];rw[Nat.add_mul] at hj;omega)
   rw[hz1,show 0+n * sz+(j - n * sz)=j from by omega] at this
   have h2:=hev _ this.1
   exact⟨h2.1,h2.2.trans this.2⟩
 ·have hg:cap<n+k:=by omega
  have hol:=hc.oldsLen
  have hold:(Builtin.firstCells i0.size n (.slice ao n cap)).run Tryz.prog w.drew = .ok olds.toArray w.drew:=by
   rcases Nat.eq_zero_or_pos cap with h0 | hcap
   ·have e0:n=0:=by omega
    subst e0
    have e1:olds=[]:=List.length_eq_zero_iff.1 (by omega)
    subst e1
    cases ao with
    | none=>exact run_firstCells_none w.drew i0.size 0 0 cap
    | some a=>exact run_firstCells_some w.drew i0.size 0 a 0 cap [] (by simp) (by simp)
   ·have hao:=hc.addr hcap
    subst hao
    refine run_firstCells_some w.drew i0.size n ⟨b,0,none⟩ _ _ _ (by rw[hz1];exact hol) ?_
    intro j u hu
    rw[Addr.add_lit]
    exact hc.olds j u hu
  have hby:(n+k) * i0.bytes≤140737488355328:=Nat.le_trans (Nat.mul_le_mul hb hz2) (by decide)
  have hrun:=run_append_grow_src (P:=Tryz.prog) w TS TS ty T i0 _ hu hi hz0 ao n cap olds hold xv k news hs hg (by omega) (growslice_fits hg hby)
  have hge:=grownCap_ge w (n+k) cap T
  have hcm:=grownCap_le_maxLen w (n+k) cap T (by unfold maxLen;omega)
  have hevd:EvW w w.drew:=fun a ha=>⟨ha,rfl⟩
  obtain⟨C,hC⟩:∃ C,C=((olds++news).toArray++Builtin.zeroCells z.cells (grownCap w (n+k) cap T - (n+k))):=⟨_,rfl⟩
  have hCs:(n+k) * sz≤C.size:=by rw[hC,Array.size_append,List.size_toArray,List.length_append,hol,hnl,Nat.add_mul];omega
  rw[← hC] at hrun
  have hev:EvW w (w.drew.alloc (.cells C T)):=hevd.trans (EvW.alloc _ _)
  refine⟨_,_,_,hrun,⟨_,w.heap.size,_,rfl,fun _=>⟨rfl,hP _ (Nat.le_refl _),by simp⟩,by unfold maxLen;omega,fun j hj=>⟨?_,World.frozen?_alloc_new w.drew _ _ _⟩⟩,hev,h.ev hev (by simp) (fun j u hu=>?_),⟨rfl,rfl,rfl,by simp,fun x hx _=>Below.heap_alloc w.drew _ x hx⟩⟩
  ·have e1:(w.drew.alloc (.cells C T)).cell? ⟨w.heap.size,j,none⟩=_:=World.cell?_alloc_new w.drew _ _ j
   rw[e1,Array.getElem?_eq_getElem (by omega)];rfl
  ·have h1:=hc.olds j u hu
   rw[Nat.zero_add] at h1
   rw[World.cell?_alloc_lt _ _ _ (World.block_lt_of_cell? w.drew _ h1)];exact h1
theorem zg4 {w:World} {B n:Nat} {T:TypeId} {v:Value} {olds:List Value} (h:w.ownsRow B T sz v n olds):∃ ao b cap,v = .slice ao n cap∧JK (fun x=>v.ownBlock=some x) sz w ao b n cap olds:=by
 have h':=h
 rcases h'.2 with ⟨rfl,h0⟩ | ⟨g,cap,cur,rfl,hg0,hg,h1,h2,h3,h4⟩
 ·subst h0
  have e1:olds=[]:=List.length_eq_zero_iff.1 (by have:=h.1;omega)
  subst e1
  exact⟨none,0,0,rfl,⟨⟨by omega,fun h=>absurd h (by omega),fun h=>absurd h (by omega),by simp,fun j u hu=>by simp at hu,fun j hj=>by simp at hj⟩,fun h=>absurd h (by omega),by omega,fun j hj=>by simp at hj⟩⟩
 ·refine⟨_,g,cap,rfl,⟨⟨h1,fun _=>rfl,fun _=>za hg,h.1,?_,?_⟩,fun _=>rfl,h2,fun j hj=>zi hg _⟩⟩
  ·intro j u hu
   have hj:j<n * sz:=by
    have:=(List.getElem?_eq_some_iff.1 hu).1
    rw[h.1] at this;exact this
   have:=h.cellAt (g:=g) j hj
   rw[Nat.zero_add,this];exact hu
  ·intro j hj
   refine⟨?_,zi hg _⟩
   rw[z8 hg]
   have : 0+n * sz+j<cur.size:=by rw[h3];rw[Nat.sub_mul] at hj;have:=Nat.mul_le_mul_right sz h1;omega
   rw[Array.getElem?_eq_getElem this];rfl
end
end Go.Proofs.YtiganlkabilblaaGreatDoor
