import Derived.Test.YtiganlkabilblaaGreatDoorV12
import Derived.Test.YtiganlkabilblaaGreatDoorV13
import Derived.Test.YtiganlkabilblaaGreatDoorV04
set_option linter.all false
set_option maxHeartbeats 64000000
set_option maxRecDepth 100000
namespace Go.Proofs.YtiganlkabilblaaGreatDoor
open Go.RowKit
attribute [local go_sem ↓] Go.wp_at_zero Go.wp_at_succ
theorem hideR {p:Prop} (h:p):Hid p:=h
theorem ruC_set (rr:List (Thk.Bytes × Nat)) (r:Thk.Bytes × Nat) (u:Nat):((rr++[r]).flatMap ruC).set (rr.length * 2+1) (.int .i64 u)=(rr++[(r.1,u)]).flatMap ruC:=by
 rw[List.flatMap_append,List.set_append_right _ _ (by rw[ruC_len];omega),ruC_len,show rr.length * 2+1 - rr.length * 2=1 from by omega,List.flatMap_append]
 simp[ruC]
theorem Mem.setBody {w:World} {B rb:Nat} {M:MV} {lab:Nat→Nat} (h:Mem w B rb M lab (· = 0)) {rr:List (Thk.Bytes × Nat)} {r:Thk.Bytes × Nat} (hr:M.rs=rr++[r]) {rg rc:Nat} (hv:M.vr = .slice (some ⟨rg,0,none⟩) (rr.length+1) rc) (n:Nat) :
  Mem (w.setCell ⟨rg,rr.length * 2+1,none⟩ (.int .i64 n)) B rb { M with rs:=rr++[(r.1,n)] } lab (· = 0)∧KT B w (w.setCell ⟨rg,rr.length * 2+1,none⟩ (.int .i64 n)):=by
 have c:=Chg.set rg (rr.length * 2+1) (.int .i64 n) w
 have hru:=h.ru
 rw[hv,hr] at hru
 obtain⟨cs,hrb⟩:=zaQ hru (b:=rg) rfl
 have hnr:rb≠rg:=by
  intro e1;subst e1
  have:=zab hru h.blk (by decide)
  simp[Value.ownBlock] at this
 have hru':w.ownsRow B 90 2 (.slice (some ⟨rg,0,none⟩) (rr.length+1) rc) (rr.length+1) ((rr++[r]).flatMap ruC):=by simpa using hru
 have hst:=(hru'.stored (rr.length * 2+1) (.int .i64 n)).1
 rw[ruC_set] at hst
 refine⟨⟨h.ge,by rw[c.same rb h.lt hnr];exact h.blk,zaa c h.ex (zab h.ex hrb (by decide)),?_,zaa c h.op (zab h.op hrb (by decide)),fun p hp=>zaa c (h.items p hp) (zab (h.items p hp) hrb (by decide)),fun p hp=>⟨zaa c (h.parts p hp).1 (zab (h.parts p hp).1 hrb (by decide)),(h.parts p hp).2⟩,?_⟩,KT.chg c (by have:=h.lt;have:=h.ge;omega) (hru.lt rg rfl).1 (fun cs' t fr hb=>by rw[hrb] at hb;simp at hb;rw[← hb.2.1];decide)⟩
 ·simp only[hv,List.length_append,List.length_singleton];exact hst
 ·intro j hj
  obtain⟨h1,h2,h3,h4⟩:=h.opens j hj
  exact⟨zaa c h1 (zab h1 hrb (by decide)),h2,zaa c h3 (zab h3 hrb (by decide)),h4⟩
theorem zf4 (w:World) (B rb:Nat) (M:MV) (lab:Nat→Nat) (h:Mem w B rb M lab (· = 0)) (rr:List (Thk.Bytes × Nat)) (r:Thk.Bytes × Nat) (hrs:M.rs=rr++[r]) (mr:List (Thk.OP × Value × Value)) (m:Thk.OP × Value × Value) (ho:M.os=mr++[m]) (hb0:M.xs.length≤90000) (hb1:m.1.seqs.length≤90000) (hb2:mr.length≤90000) (hb3:rr.length≤90000) :
  Calls Tryz.prog 98 #[.pointer (some ⟨rb,0,none⟩)] w fun e' w'=>zb9 w B rb { M.st.closed with rs:=rr++[(r.1,M.xs.length+1)] } (.tuple #[]) e' w':=by
 have hcl:=zew w B rb M lab h mr m ho hb0 hb1 hb2
 have c1:w.cell? ⟨rb,1,none⟩=some M.vr:=za0 h.blk 1
 have hru:=h.ru
 rw[hrs] at hru
 obtain⟨rg,rc,hv,_,_⟩:=hru.form (by simp)
 rw[hv] at c1
 have hlr:(rr++[r]).length=rr.length+1:=by simp
 rw[hlr] at c1
 have hcr:M.st.closed.rs=rr++[r]:=by
  show M.st.rs=_
  exact hrs
 have HCR:=hideR hcr
 have hp0:(0:Int)<(rr.length:Int)+1:=by omega
 clear h hrs ho hru hv hlr hcr
 go_enter Tryz.func98,Tryz.ntmps98
 go_wp2_with fail
 refine hcl.mono ?_
 rintro e1 w1 ⟨rfl,M1,lab1,hM1,hK1,hS1⟩
 have hr1:M1.rs=rr++[r]:=by
  have e1:M1.st.rs=M1.rs:=rfl
  rw[← e1,hS1];exact HCR.out
 have hru1:=hM1.ru
 rw[hr1] at hru1
 obtain⟨rg1,rc1,hv1,hgB,hgl⟩:=hru1.form (by simp)
 have hlr:(rr++[r]).length=rr.length+1:=by simp
 rw[hlr] at hv1
 have d1:w1.cell? ⟨rb,1,none⟩=some M1.vr:=za0 hM1.blk 1
 rw[hv1] at d1
 have hru2:=hru1
 rw[hv1] at hru2
 simp only[hlr] at hru2
 have d2:w1.cell? ⟨rg1,rr.length * 2+1,none⟩=some (.int .i64 r.2):=by
  rw[hru2.cellAt _ (by omega),List.flatMap_append,List.getElem?_append_right (by rw[ruC_len];omega),ruC_len,show rr.length * 2+1 - rr.length * 2=1 from by omega]
  simp[ruC]
 have d3:w1.frozen? ⟨rg1,rr.length * 2+1,none⟩=false:=hru2.frozenAt _
 have hL:(rr.length:Int)<(rr.length:Int)+1:=by omega
 have HM1:=hideR hM1
 have HR1:=hideR hr1
 have HV1:=hideR hv1
 have HK1:=hideR hK1
 have HS1:=hideR hS1
 have hrl:=hM1.lt
 clear hcl hM1 hr1 hru1 hv1 hlr hru2 hK1 hS1 c1
 go_wp2_with fail
 go_region
 go_wp2_with fail
 obtain⟨hM2,hK2⟩:=HM1.out.setBody HR1.out HV1.out (M.xs.length+1)
 have hM2:=hM2.drew
 have hK2:=hK2.drew
 go_end0
 refine⟨rfl,_,_,hM2,HK1.out.trans hK2,?_⟩
 have e1:=HS1.out
 rw[← e1]
 rfl
theorem rrule0_any (w:World) (B rb:Nat) (M:MV) (lab:Nat→Nat) (h:Mem w B rb M lab (· = 0)) (hrs:M.rs=[]) :
  Calls Tryz.prog 98 #[.pointer (some ⟨rb,0,none⟩)] w fun e' w'=>e' = .returned (.tuple #[])∧w'=w:=by
 have c1:w.cell? ⟨rb,1,none⟩=some M.vr:=za0 h.blk 1
 have hru:=h.ru
 rw[hrs] at hru
 obtain⟨ra,rc,hv⟩:=za9 hru
 rw[hv] at c1
 simp only[List.length_nil] at c1
 clear h hrs hru hv
 go_enter Tryz.func98,Tryz.ntmps98
 go_wp2_with fail
 go_end0
 exact⟨rfl,rfl⟩
theorem Tryz.infoOpen:(Tryz.prog.info? 209).map (fun i=>(i.zero,i.size,i.bytes))=some (some (.agg #[.slice none 0 0,.slice none 0 0,.string ⟨#[]⟩]),3,64):=by kernel_rfl
def RdErr (w:World) (B:Nat) (er:Nat) (e:Ending) (w':World):Prop:=e = .returned (.int .i64 er)∧KT B w w'
def okA (b:Thk.Bytes):Prop:=b=[38]∨b=[33]
theorem Mem.c3 {w:World} {B rb:Nat} {M:MV} {lab:Nat→Nat} {P:Nat→Prop} (h:Mem w B rb M lab P):w.cell? ⟨rb,3,none⟩=some (.string ⟨M.sign.toArray⟩)∧w.cell? ⟨rb,4,none⟩=some (.bool M.may)∧w.cell? ⟨rb,2,none⟩=some M.vo∧(∀ o,w.frozen? ⟨rb,o,none⟩=false):=⟨za0 h.blk 3,za0 h.blk 4,za0 h.blk 2,za2 h.blk⟩
theorem zcD (w:World) (B rb:Nat) (M:MV) (lab:Nat→Nat) (h:Mem w B rb M lab (· = 0)) (hs:okA M.sign) (c:UInt8) (hc:c=47∨c=38∨c=33∨c=41) :
  Calls Tryz.prog 100 #[.pointer (some ⟨rb,0,none⟩),.string ⟨#[c]⟩] w fun e' w'=>RdErr w B 2 e' w':=by
 obtain⟨c3,c4,c2,fz⟩:=h.c3
 clear h
 rcases hs with hs | hs<;>rw[hs] at c3<;>rcases hc with rfl | rfl | rfl | rfl
 all_goals
  go_enter Tryz.func100,Tryz.ntmps100
  go_wp2_with fail
  go_ret
  exact⟨rfl,KT.refl _ _⟩
theorem zeo (w:World) (B rb:Nat) (M:MV) (lab:Nat→Nat) (h:Mem w B rb M lab (· = 0)) (hs:M.sign=[]) (c:UInt8) (hc:c=38∨c=33) :
  Calls Tryz.prog 100 #[.pointer (some ⟨rb,0,none⟩),.string ⟨#[c]⟩] w fun e' w'=>zb9 w B rb { M.st with sign:=[c],may:=false } (.int .i64 0) e' w':=by
 obtain⟨c3,c4,c2,fz⟩:=h.c3
 rw[hs] at c3
 have H:=hideP h
 clear h
 rcases hc with rfl | rfl
 all_goals
  go_enter Tryz.func100,Tryz.ntmps100
  go_wp2_with fail
  go_ret
 ·obtain⟨h1,k1⟩:=H.out.setSign [38]
  obtain⟨h2,k2⟩:=h1.setMay false
  exact⟨rfl,_,_,h2,k1.trans k2,rfl⟩
 ·obtain⟨h1,k1⟩:=H.out.setSign [33]
  obtain⟨h2,k2⟩:=h1.setMay false
  exact⟨rfl,_,_,h2,k1.trans k2,rfl⟩
theorem rsigns_slash (w:World) (B rb:Nat) (M:MV) (lab:Nat→Nat) (h:Mem w B rb M lab (· = 0)) (hs:M.sign=[]) (mr:List (Thk.OP × Value × Value)) (m:Thk.OP × Value × Value) (ho:M.os=mr++[m]) (hb0:M.xs.length≤90000) (hb1:m.1.seqs.length≤90000) (hb2:mr.length≤90000) :
  Calls Tryz.prog 100 #[.pointer (some ⟨rb,0,none⟩),.string ⟨#[47]⟩] w fun e' w'=>zb9 w B rb { M.st.slash with may:=false } (.int .i64 0) e' w':=by
 obtain⟨c3,c4,c2,fz⟩:=h.c3
 rw[hs] at c3
 have hsl:=zeR w B rb M lab h mr m ho (by omega) (by omega) (by omega)
 clear h
 go_enter Tryz.func100,Tryz.ntmps100
 go_wp2_with fail
 refine hsl.mono ?_
 rintro e1 w1 ⟨rfl,M1,lab1,hM1,hK1,hS1⟩
 obtain⟨d3,d4,d2,dz⟩:=hM1.c3
 have HM1:=hideP hM1
 have HK1:=hideP hK1
 have HS1:=hideP hS1
 clear hsl hM1 hK1 hS1
 go_wp2_with fail
 obtain⟨h2,k2⟩:=HM1.out.setMay false
 go_ret
 refine⟨rfl,_,_,h2,HK1.out.trans k2,?_⟩
 rw[← HS1.out]
 rfl
theorem rsigns_errB (w:World) (B rb:Nat) (M:MV) (lab:Nat→Nat) (h:Mem w B rb M lab (· = 0)) (hm:M.may=false) (c:UInt8) (hc:c=63∨c=42∨c=43) :
  Calls Tryz.prog 100 #[.pointer (some ⟨rb,0,none⟩),.string ⟨#[c]⟩] w fun e' w'=>RdErr w B 2 e' w':=by
 obtain⟨c3,c4,c2,fz⟩:=h.c3
 rw[hm] at c4
 clear h
 rcases hc with rfl | rfl | rfl
 all_goals
  go_enter Tryz.func100,Tryz.ntmps100
  go_wp2_with fail
  go_ret
  exact⟨rfl,KT.refl _ _⟩
theorem rsigns_behind (w:World) (B rb:Nat) (M:MV) (lab:Nat→Nat) (h:Mem w B rb M lab (· = 0)) (hm:M.may=true) (c:UInt8) (hc:c=63∨c=42∨c=43)
  (mr:List (Thk.OP × Value × Value)) (m:Thk.OP × Value × Value) (ho:M.os=mr++[m]) (tl:List Nat) (k:Nat) (ht:m.1.terms=tl++[k]) (hk:k<M.xs.length) (hkind:(M.xs[k].1.kind=10∨M.xs[k].1.kind=11)→M.xs[k].1.parts≠[])
  (hb0:M.xs.length≤90000) (hb1:tl.length≤90000) (hb2:mr.length≤90000) :
  Calls Tryz.prog 100 #[.pointer (some ⟨rb,0,none⟩),.string ⟨#[c]⟩] w fun e' w'=>zb9 w B rb (M.st.behind [c]) (.int .i64 0) e' w':=by
 obtain⟨c3,c4,c2,fz⟩:=h.c3
 rw[hm] at c4
 have hsg:okSg [c]:=by rcases hc with rfl | rfl | rfl<;>simp[okSg]
 have hbe:Calls Tryz.prog 142 #[.pointer (some ⟨rb,0,none⟩),.string ⟨[c].toArray⟩] w fun e' w'=>zb9 w B rb (M.st.behind [c]) (.tuple #[]) e' w':=by
  by_cases hkk:M.xs[k].1.kind=10∨M.xs[k].1.kind=11
  ·exact rbehindA_any w B rb M lab h mr m ho tl k ht hk ⟨hkk,hkind hkk⟩ [c] hsg hb0 hb1 hb2
  ·exact rbehindB_any w B rb M lab h mr m ho tl k ht hk ⟨fun e=>hkk (.inl e),fun e=>hkk (.inr e)⟩ [c] hsg hb0 hb1 hb2
 clear h hkind hsg
 rcases hc with rfl | rfl | rfl
 all_goals
  go_enter Tryz.func100,Tryz.ntmps100
  go_wp2_with fail
  refine hbe.mono ?_
  rintro e1 w1 ⟨rfl,M1,lab1,hM1,hK1,hS1⟩
  have HE:Hid (∃ M' lab',Mem w1 B rb M' lab' (· = 0)∧KT B w w1∧M'.st=_):=⟨M1,lab1,hM1,hK1,hS1⟩
  clear hbe hM1 hK1 hS1
  go_wp2_with fail
  go_ret
  exact⟨rfl,HE.out⟩
theorem rsigns_deep (w:World) (B rb:Nat) (M:MV) (lab:Nat→Nat) (h:Mem w B rb M lab (· = 0)) (hd : 6<M.os.length) :
  Calls Tryz.prog 100 #[.pointer (some ⟨rb,0,none⟩),.string ⟨#[40]⟩] w fun e' w'=>RdErr w B 3 e' w':=by
 obtain⟨c3,c4,c2,fz⟩:=h.c3
 obtain⟨oa,oc,hv⟩:=za9 h.op
 rw[hv] at c2
 have hd':(6:Int)<(M.os.length:Int):=by omega
 clear h hv
 go_enter Tryz.func100,Tryz.ntmps100
 go_wp2_with fail
 go_ret
 exact⟨rfl,KT.refl _ _⟩
theorem rsigns_errC (w:World) (B rb:Nat) (M:MV) (lab:Nat→Nat) (h:Mem w B rb M lab (· = 0)) (hs:M.sign=[]) (hd:M.os.length<2) :
  Calls Tryz.prog 100 #[.pointer (some ⟨rb,0,none⟩),.string ⟨#[41]⟩] w fun e' w'=>RdErr w B 2 e' w':=by
 obtain⟨c3,c4,c2,fz⟩:=h.c3
 rw[hs] at c3
 obtain⟨oa,oc,hv⟩:=za9 h.op
 rw[hv] at c2
 have hd':(M.os.length:Int)<2:=by omega
 clear h hv
 go_enter Tryz.func100,Tryz.ntmps100
 go_wp2_with fail
 go_ret
 exact⟨rfl,KT.refl _ _⟩
theorem zcQ (w:World) (B rb:Nat) (M:MV) (lab:Nat→Nat) (h:Mem w B rb M lab (· = 0)) (mr:List (Thk.OP × Value × Value)) (m:Thk.OP × Value × Value) (ho:M.os=mr++[m]) (e:Nat) (sg:Thk.Bytes) (hsg:sg=[]∨okA sg) (hb0:M.xs.length≤100000) (hb1:m.1.terms.length≤100000) (hb2:mr.length≤100000) :
  Calls Tryz.prog 101 #[.pointer (some ⟨rb,0,none⟩),.int .i64 e,.string ⟨sg.toArray⟩] w fun e' w'=>zb9 w B rb (M.st.term e sg) (.tuple #[]) e' w':=by
 have e3:M.st.xs.length=M.xs.length:=by simp[MV.st]
 unfold Thk.ST.term
 rcases hsg with rfl | hsg
 ·rw[if_pos rfl]
  exact rterm0_any w B rb M lab h mr m ho e hb1 hb2
 ·have hok:okSg sg:=by rcases hsg with rfl | rfl<;>simp[okSg]
  rw[if_neg (by rcases hsg with rfl | rfl<;>simp),e3]
  exact rterm1_any w B rb M lab h mr m ho e sg hok hb0 hb1 hb2
theorem rsigns_close (w:World) (B rb:Nat) (M:MV) (lab:Nat→Nat) (h:Mem w B rb M lab (· = 0)) (hs:M.sign=[]) (mr:List (Thk.OP × Value × Value)) (m0 m:Thk.OP × Value × Value) (ho:M.os=mr++[m0]++[m]) (hsg:m.1.sign=[]∨okA m.1.sign)
  (hb0:M.xs.length≤80000) (hb1:m.1.seqs.length≤80000) (hb2:mr.length≤80000) (hb3:m0.1.terms.length≤80000) :
  Calls Tryz.prog 100 #[.pointer (some ⟨rb,0,none⟩),.string ⟨#[41]⟩] w fun e' w'=>zb9 w B rb (M.st.closed.term (M.xs.length+1) m.1.sign) (.int .i64 0) e' w':=by
 obtain⟨c3,c4,c2,fz⟩:=h.c3
 rw[hs] at c3
 obtain⟨oa,oc,hv⟩:=za9 h.op
 rw[hv] at c2
 have hd':¬ (M.os.length:Int)<2:=by rw[ho];simp;omega
 have hcl:=zew w B rb M lab h (mr++[m0]) m ho (by omega) (by omega) (by simp;omega)
 have hos:M.st.closed.os=mr.map (·.1)++[m0.1]:=by
  show M.st.os.dropLast=_
  simp[MV.st,ho]
 have hxl:M.st.closed.xs.length=M.xs.length+2:=by
  unfold Thk.ST.closed Thk.ST.slash
  simp[Thk.ST.add,Thk.ST.setTop,MV.st]
 have HOS:=hideP hos
 have HXL:=hideP hxl
 clear h hv hos hxl ho
 go_enter Tryz.func100,Tryz.ntmps100
 go_wp2_with fail
 refine hcl.mono ?_
 rintro e1 w1 ⟨rfl,M1,lab1,hM1,hK1,hS1⟩
 obtain⟨mr1,m1,ho1,hmr1,hm1⟩:=os_split (M:=M1) (by rw[hS1];exact HOS.out)
 have hx1:M1.xs.length=M.xs.length+2:=by have:=HXL.out;rw[← hS1] at this;simpa [MV.st] using this
 have hl1:mr1.length=mr.length:=by rw[← List.length_map (f:=(·.1)),hmr1];simp
 have htm:=zcQ w1 B rb M1 lab1 hM1 mr1 m1 ho1 (M.xs.length+1) m.1.sign hsg (by omega) (by rw[hm1];omega) (by omega)
 rw[hS1] at htm
 have HK1:=hideP hK1
 clear hcl hM1 hS1 ho1 hK1 hx1 hl1 hmr1 hm1
 go_wp2_with fail
 refine htm.mono ?_
 rintro e1 w2 ⟨rfl,M2,lab2,hM2,hK2,hS2⟩
 have HE:Hid (∃ M' lab',Mem w2 B rb M' lab' (· = 0)∧KT B w w2∧M'.st=M.st.closed.term (M.xs.length+1) m.1.sign):=⟨M2,lab2,hM2,HK1.out.trans hK2,hS2⟩
 clear htm hM2 hK2 hS2
 go_wp2_with fail
 go_ret
 exact⟨rfl,HE.out⟩
theorem Tryz.infoRRule:(Tryz.prog.info? 90).map (fun i=>(i.zero,i.size,i.bytes))=some (some (.agg #[.string ⟨#[]⟩,.int .i64 0]),2,24):=by kernel_rfl
theorem Mem.pushOpen {w w1:World} {B rb:Nat} {M:MV} {lab:Nat→Nat} (h:Mem w B rb M lab (· = 0)) {sg:Thk.Bytes} {g cap:Nat}
  (hown:w1.ownsRow B 209 3 (.slice (some ⟨g,0,none⟩) (M.os.length+1) cap) (M.os.length+1) (M.os.flatMap opC++[.slice none 0 0,.slice none 0 0,.string ⟨sg.toArray⟩])) (hg:w.grownBy w1 M.vo.ownBlock) (hat:M.vo.ownBlock=some g∨g=w.heap.size) :
  Mem (w1.setCell ⟨rb,2,none⟩ (.slice (some ⟨g,0,none⟩) (M.os.length+1) cap)) B rb { M with vo:=.slice (some ⟨g,0,none⟩) (M.os.length+1) cap,os:=M.os++[(⟨[],[],sg⟩,.slice none 0 0,.slice none 0 0)] } lab (· = 0)∧KT B w (w1.setCell ⟨rb,2,none⟩ (.slice (some ⟨g,0,none⟩) (M.os.length+1) cap)):=by
 have hty:∀ {e:TypeId} {sz:Nat} {u:Value} {n':Nat} {cs':List Value},w.ownsRow B e sz u n' cs'→e≠209→w1.ownsRow B e sz u n' cs':=by
  intro e sz u n' cs' hu he
  exact zah hu (fun b hb=>hg.block b (hu.lt b hb).2 (fun e1=>zco hu h.op he e1.symm hb))
 have hrb1:w1.heap[rb]? = some (rdO M.vx M.vr M.vo M.sign M.may):=by
  rw[hg.block rb h.lt (fun e=>zab h.op h.blk (by decide) e.symm)];exact h.blk
 have c:=Chg.set rb 2 (.slice (some ⟨g,0,none⟩) (M.os.length+1) cap) w1
 have hge:=h.ge
 have hlt:=h.lt
 have hkeep:∀ {e:TypeId} {sz:Nat} {u:Value} {n':Nat} {cs':List Value},w1.ownsRow B e sz u n' cs'→e≠204→(w1.setCell ⟨rb,2,none⟩ (.slice (some ⟨g,0,none⟩) (M.os.length+1) cap)).ownsRow B e sz u n' cs':=fun hu he=>zaa c hu (zab hu hrb1 he)
 refine⟨⟨h.ge,by rw[zaE hrb1];rfl,hkeep (hty h.ex (by decide)) (by decide),hkeep (hty h.ru (by decide)) (by decide),?_,fun p hp=>hkeep (hty (h.items p hp) (by decide)) (by decide),fun p hp=>⟨hkeep (hty (h.parts p hp).1 (by decide)) (by decide),(h.parts p hp).2⟩,?_⟩,?_⟩
 ·have:=hkeep hown (by decide)
  simpa [opC] using this
 ·intro k hk
  simp only[] at hk ⊢
  by_cases hkm:k<M.os.length
  ·rw[List.getElem_append_left hkm]
   obtain⟨i1,i2,i3,i4⟩:=h.opens k hkm
   exact⟨hkeep (hty i1 (by decide)) (by decide),i2,hkeep (hty i3 (by decide)) (by decide),i4⟩
  ·have hke:k=M.os.length:=by simp at hk;omega
   subst hke
   rw[List.getElem_append_right (Nat.le_refl _)]
   simp only[Nat.sub_self,List.getElem_cons_zero]
   exact⟨World.ownsRow_nil _ _ _ _,fun b hb=>by simp[Value.ownBlock] at hb,World.ownsRow_nil _ _ _ _,fun b hb=>by simp[Value.ownBlock] at hb⟩
 ·refine KT.trans ⟨hg.os,hg.tape,hg.output,hg.size,?_,?_⟩ (KT.chg c (by have:=hg.size;omega) h.ge (fun cs t fr hb=>by rw[hrb1] at hb;simp at hb;rw[← hb.2.1];decide))
  ·intro k hk
   refine hg.block k (by omega) (fun e1=>?_)
   have:=(h.op.lt k e1.symm).1
   omega
  ·intro k cs t fr hk ht
   refine hg.block k (za3 hk) (fun e=>?_)
   obtain⟨cs2,hc⟩:=zaQ h.op e.symm
   rw[hk] at hc;simp at hc;rw[hc.2.1] at ht;exact ht (by decide)
theorem Mem.pushRule {w w1:World} {B rb:Nat} {M:MV} {lab:Nat→Nat} (h:Mem w B rb M lab (· = 0)) {nm:Thk.Bytes} {g cap:Nat}
  (hown:w1.ownsRow B 90 2 (.slice (some ⟨g,0,none⟩) (M.rs.length+1) cap) (M.rs.length+1) (M.rs.flatMap ruC++[.string ⟨nm.toArray⟩,.int .i64 0])) (hg:w.grownBy w1 M.vr.ownBlock) (hat:M.vr.ownBlock=some g∨g=w.heap.size) :
  Mem (w1.setCell ⟨rb,1,none⟩ (.slice (some ⟨g,0,none⟩) (M.rs.length+1) cap)) B rb { M with vr:=.slice (some ⟨g,0,none⟩) (M.rs.length+1) cap,rs:=M.rs++[(nm,0)] } lab (· = 0)∧KT B w (w1.setCell ⟨rb,1,none⟩ (.slice (some ⟨g,0,none⟩) (M.rs.length+1) cap)):=by
 have hty:∀ {e:TypeId} {sz:Nat} {u:Value} {n':Nat} {cs':List Value},w.ownsRow B e sz u n' cs'→e≠90→w1.ownsRow B e sz u n' cs':=by
  intro e sz u n' cs' hu he
  exact zah hu (fun b hb=>hg.block b (hu.lt b hb).2 (fun e1=>zco hu h.ru he e1.symm hb))
 have hrb1:w1.heap[rb]? = some (rdO M.vx M.vr M.vo M.sign M.may):=by
  rw[hg.block rb h.lt (fun e=>zab h.ru h.blk (by decide) e.symm)];exact h.blk
 have c:=Chg.set rb 1 (.slice (some ⟨g,0,none⟩) (M.rs.length+1) cap) w1
 have hge:=h.ge
 have hlt:=h.lt
 have hkeep:∀ {e:TypeId} {sz:Nat} {u:Value} {n':Nat} {cs':List Value},w1.ownsRow B e sz u n' cs'→e≠204→(w1.setCell ⟨rb,1,none⟩ (.slice (some ⟨g,0,none⟩) (M.rs.length+1) cap)).ownsRow B e sz u n' cs':=fun hu he=>zaa c hu (zab hu hrb1 he)
 refine⟨⟨h.ge,by rw[zaE hrb1];rfl,hkeep (hty h.ex (by decide)) (by decide),?_,hkeep (hty h.op (by decide)) (by decide),fun p hp=>hkeep (hty (h.items p hp) (by decide)) (by decide),fun p hp=>⟨hkeep (hty (h.parts p hp).1 (by decide)) (by decide),(h.parts p hp).2⟩,?_⟩,?_⟩
 ·have:=hkeep hown (by decide)
  simpa [ruC] using this
 ·intro k hk
  obtain⟨i1,i2,i3,i4⟩:=h.opens k hk
  exact⟨hkeep (hty i1 (by decide)) (by decide),i2,hkeep (hty i3 (by decide)) (by decide),i4⟩
 ·refine KT.trans ⟨hg.os,hg.tape,hg.output,hg.size,?_,?_⟩ (KT.chg c (by have:=hg.size;omega) h.ge (fun cs t fr hb=>by rw[hrb1] at hb;simp at hb;rw[← hb.2.1];decide))
  ·intro k hk
   refine hg.block k (by omega) (fun e1=>?_)
   have:=(h.ru.lt k e1.symm).1
   omega
  ·intro k cs t fr hk ht
   refine hg.block k (za3 hk) (fun e=>?_)
   obtain⟨cs2,hc⟩:=zaQ h.ru e.symm
   rw[hk] at hc;simp at hc;rw[hc.2.1] at ht;exact ht (by decide)
theorem rsigns_open (w:World) (B rb:Nat) (M:MV) (lab:Nat→Nat) (h:Mem w B rb M lab (· = 0)) (hd:M.os.length≤6) :
  Calls Tryz.prog 100 #[.pointer (some ⟨rb,0,none⟩),.string ⟨#[40]⟩] w fun e' w'=>zb9 w B rb { M.st with os:=M.st.os++[⟨[],[],M.sign⟩],sign:=[],may:=false } (.int .i64 0) e' w':=by
 obtain⟨i0,hi,hz0,hz1,hz2⟩:=info_parts Tryz.infoOpen
 obtain⟨c3,c4,c2,fz⟩:=h.c3
 obtain⟨oa,oc,hv⟩:=za9 h.op
 rw[hv] at c2
 have hown:w.ownsRow B 209 3 (.slice oa M.os.length oc) M.os.length (M.os.flatMap opC):=by rw[← hv];exact h.op
 have hd':¬ (6:Int)<(M.os.length:Int):=by omega
 have hge:=h.ge
 have hlt:=h.lt
 have f2:=fz 2
 have f3:=fz 3
 have f4:=fz 4
 have H:=hideP h
 have HV:=hideP hv
 have HML:Hid (M.os.length+1≤maxLen):=by show _≤_;unfold maxLen;omega
 clear h hv fz
 go_enter Tryz.func100,Tryz.ntmps100
 go_wp2_with (first | (at_builtin;refine wpList_append_lies _ rfl _ _ 202 rfl B 209 i0 _ 3 64 Tryz.underlying202 hi hz0 hz1 hz2 rfl (by decide) _ _ _ rfl (hown.alloc _) ⟨w.heap.size,0,none⟩ 1 1 [.slice none 0 0,.slice none 0 0,.string ⟨M.sign.toArray⟩] rfl rfl ?c1 ?c2 (by decide) HML.out ?c4 ?c5 (w.heap.size+1) (by simp) ?_))
 case c2=>first | exact⟨rfl,rfl⟩ | (intro u hu;simp at hu;rcases hu with rfl | rfl<;>rfl)
 case c4=>omega
 case c5=>first | omega | (simp;omega)
 intro g cap w1 hown' hgrow hat hgl
 have hMW:=H.out.below (lab':=lab) (w':=w.alloc (.cells #[.slice none 0 0,.slice none 0 0,.string ⟨M.sign.toArray⟩] 209)) (za1 _ _) (fun _ _=>rfl)
 have hPO:=hMW.pushOpen hown' (by rw[HV.out];exact hgrow) (by rw[HV.out];simpa using hat)
 have hrb1:w1.heap[rb]? = some (rdO M.vx M.vr M.vo M.sign M.may):=by
  rw[hgrow.block rb (by simp;omega) (fun e=>by rw[← HV.out] at e;exact zab H.out.op H.out.blk (by decide) e.symm)]
  rw[za5 _ _ hlt];exact H.out.blk
 have d2:w1.cell? ⟨rb,2,none⟩=some M.vo:=za0 hrb1 2
 have d3:w1.cell? ⟨rb,3,none⟩=some (.string ⟨M.sign.toArray⟩):=za0 hrb1 3
 have d4:w1.cell? ⟨rb,4,none⟩=some (.bool M.may):=za0 hrb1 4
 have df:=za2 hrb1
 have HPO:=hideP hPO
 clear hMW hPO hrb1 hown hown' hgrow hat c2 c3 c4 f2 f3 f4
 go_wp2_with fail
 obtain⟨h1,k1⟩:=HPO.out
 obtain⟨h2,k2⟩:=h1.setSign []
 obtain⟨h3,k3⟩:=h2.setMay false
 go_ret
 refine⟨rfl,_,_,h3,(KT.alloc B w (by omega) _).trans (k1.trans (k2.trans k3)),?_⟩
 simp[MV.st]
theorem rsigns_dot (w:World) (B rb:Nat) (M:MV) (lab:Nat→Nat) (h:Mem w B rb M lab (· = 0)) (mr:List (Thk.OP × Value × Value)) (m:Thk.OP × Value × Value) (ho:M.os=mr++[m]) (hsg:M.sign=[]∨okA M.sign)
  (hb0:M.xs.length≤90000) (hb1:m.1.terms.length≤90000) (hb2:mr.length≤90000) :
  Calls Tryz.prog 100 #[.pointer (some ⟨rb,0,none⟩),.string ⟨#[46]⟩] w fun e' w'=>zb9 w B rb ((({ M.st with sign:=[] }:Thk.ST).add ⟨3,[],[],0,[]⟩).term M.xs.length M.sign) (.int .i64 0) e' w':=by
 obtain⟨c3,c4,c2,fz⟩:=h.c3
 obtain⟨h1,k1⟩:=h.setSign []
 obtain⟨xa,xc,hx⟩:=za9 h.ex
 have had:=zbx _ B rb xa xc M.xs.length M.vr M.vo [] M.may (M.xs.flatMap exC) 3 none 0 0 ⟨#[]⟩ 0 none 0 0 (by rw[← hx];exact h1.blk) (by rw[← hx];exact h1.ex) (by omega) h1.ge
 simp only[show ((3:Nat):Int)=3 from rfl] at had
 have H1:=hideP h1
 have K1:=hideP k1
 have HX:=hideP hx
 have HO:=hideP ho
 have f3:=fz 3
 clear h h1 k1 hx ho fz
 go_enter Tryz.func100,Tryz.ntmps100
 go_wp2_with fail
 refine had.mono ?_
 rintro e1 w1 ⟨xg,xcap,rfl,hAE⟩
 obtain⟨hM1,hK1⟩:=H1.out.add (re:=⟨3,[],[],0,[]⟩) (iv:=.slice none 0 0) (pv:=.slice none 0 0) (by rw[HX.out];exact hAE) (World.ownsRow_nil _ _ _ _) (World.ownsRow_nil _ _ _ _) (fun b hb=>by simp[Value.ownBlock] at hb)
 have htm:=zcQ w1 B rb _ lab hM1 mr m HO.out M.xs.length M.sign hsg (by simp;omega) (by omega) (by omega)
 have HK1:=hideP hK1
 clear had hAE hM1 hK1
 go_wp2_with fail
 refine htm.mono ?_
 rintro e1 w2 ⟨rfl,M2,lab2,hM2,hK2,hS2⟩
 have HE:Hid (∃ M' lab',Mem w2 B rb M' lab' (· = 0)∧KT B w w2∧M'.st=(({ M.st with sign:=[] }:Thk.ST).add ⟨3,[],[],0,[]⟩).term M.xs.length M.sign):=⟨M2,lab2,hM2,K1.out.trans (HK1.out.trans hK2),by rw[hS2];simp[MV.st,Thk.ST.add]⟩
 clear htm hM2 hK2 hS2
 go_wp2_with fail
 go_ret
 exact⟨rfl,HE.out⟩
end Go.Proofs.YtiganlkabilblaaGreatDoor
namespace Thk
def zav (t:Tok):RE:=
 match t.kind with
 | .name=>⟨4,[],t.text,0,[]⟩
 | .lit=>⟨1,t.text.map (fun c=>(c,c)),[],0,[]⟩
 | .cls=>⟨2,t.spans,[],0,[]⟩
 | _=>⟨3,[],[],0,[]⟩
def ST.rule (S:ST):ST:=if S.rs=[] then S else { S.closed with rs:=S.rs.dropLast++[((S.rs.getLastD ([],0)).1,S.xs.length+1)] }
def ST.lay (S:ST) (e:RE):ST:=(({ S with sign:=[] }:ST).add e).term S.xs.length S.sign
def ST.signs (S:ST) (c:UInt8):Except Nat ST:=
 if c=47 then (if S.sign=[] then .ok { S.slash with may:=false } else .error 2)
 else if c=38∨c=33 then (if S.sign=[] then .ok { S with sign:=[c],may:=false } else .error 2)
 else if c=63∨c=42∨c=43 then (if S.may=true then .ok (S.behind [c]) else .error 2)
 else if c=40 then (if 6<S.os.length then .error 3 else .ok { S with os:=S.os++[⟨[],[],S.sign⟩],sign:=[],may:=false })
 else if c=41 then (if S.sign=[]∧2≤S.os.length then .ok (S.closed.term (S.xs.length+1) S.top.sign) else .error 2)
 else .ok (S.lay ⟨3,[],[],0,[]⟩)
def ST.begin (S:ST) (b:Bytes):ST:={ S.rule with rs:=S.rule.rs++[(b,0)],os:=S.rule.os++[⟨[],[],[]⟩],may:=false }
def run:List Tok→ST→Except (Nat × Nat) ST
 | [],_=>.error (0,0)
 | t::rest,S=>
  match t.kind with
  | .bad=>.error (2,t.place)
  | .fin=>if S.rs=[]∨S.sign≠[]∨1<S.os.length then .error (2,t.place) else .ok S.rule
  | .arrow=>.error (2,t.place)
  | .sign c=>if S.rs=[] then .error (2,t.place) else
   match S.signs c with
   | .error e=>.error (e,t.place)
   | .ok S'=>run rest S'
  | .lit=>if S.rs=[] then .error (2,t.place) else run rest (S.lay (zav t))
  | .cls=>if S.rs=[] then .error (2,t.place) else run rest (S.lay (zav t))
  | .name=>
   match rest with
   | []=>.error (0,0)
   | m::rest'=>
    if m.kind.isArrow then
     (if S.sign≠[]∨1<S.os.length then .error (2,m.place) else if 20≤S.rs.length then .error (4,m.place) else run rest' (S.begin t.text))
    else if S.rs=[] then .error (2,m.place) else run (m::rest') (S.lay (zav t))
theorem zdH {t:Tok} {rest:List Tok} {S:ST} (h:t.kind = .bad):run (t::rest) S = .error (2,t.place):=by
 unfold run;simp only[h]
theorem zdG {t:Tok} {rest:List Tok} {S:ST} (h:t.kind = .fin):run (t::rest) S=if S.rs=[]∨S.sign≠[]∨1<S.os.length then .error (2,t.place) else .ok S.rule:=by
 unfold run;simp only[h]
theorem zcb {t:Tok} {rest:List Tok} {S:ST} (h:t.kind = .arrow):run (t::rest) S = .error (2,t.place):=by
 unfold run;simp only[h]
theorem zbf {t:Tok} {rest:List Tok} {S:ST} {c:UInt8} (h:t.kind = .sign c) (hr:S.rs≠[]):run (t::rest) S=match S.signs c with
   | .error e=>.error (e,t.place)
   | .ok S'=>run rest S':=by
 rw[run.eq_def];simp only[h,if_neg hr]
theorem run_lit {t:Tok} {rest:List Tok} {S:ST} (h:t.kind = .lit) (hr:S.rs≠[]):run (t::rest) S=run rest (S.lay (zav t)):=by
 rw[run.eq_def];simp only[h,if_neg hr]
theorem run_cls {t:Tok} {rest:List Tok} {S:ST} (h:t.kind = .cls) (hr:S.rs≠[]):run (t::rest) S=run rest (S.lay (zav t)):=by
 rw[run.eq_def];simp only[h,if_neg hr]
theorem run_name {t m:Tok} {rest:List Tok} {S:ST} (h:t.kind = .name) (hr:S.rs≠[]) (ha:m.kind.isArrow=false):run (t::m::rest) S=run (m::rest) (S.lay (zav t)):=by
 rw[run];simp only[h,ha,if_neg hr,Bool.false_eq_true,if_false]
theorem zdq {t m:Tok} {rest:List Tok} {S:ST} (h:t.kind = .name) (ha:m.kind.isArrow=true):run (t::m::rest) S=if S.sign≠[]∨1<S.os.length then .error (2,m.place) else if 20≤S.rs.length then .error (4,m.place) else run rest (S.begin t.text):=by
 rw[run];simp only[h,ha,if_true]
def Wf:List Tok→Prop
 | []=>False
 | t::r=>(∀ c,t.kind = .sign c→signB c=true)∧if t.kind.last then r=[] else Wf r
theorem Wf.form {ts:List Tok} (h:Wf ts):∃ t r,ts=t::r∧(∀ c,t.kind = .sign c→signB c=true)∧(t.kind.last=false→Wf r):=by
 cases ts with
 | nil=>exact h.elim
 | cons t r=>exact⟨t,r,rfl,h.1,fun hl=>by have:=h.2;rw[if_neg (by simp[hl])] at this;exact this⟩
def zce (ts:List Tok):Prop:=(hd ts).kind = .sign 63∨(hd ts).kind = .sign 42∨(hd ts).kind = .sign 43
mutual
def DenP (xs:List RE) (k:Nat):Piece→Prop
  | .name b=>xs[k]? = some ⟨4,[],b,0,[]⟩
  | .lit b=>xs[k]? = some ⟨1,b.map (fun c=>(c,c)),[],0,[]⟩
  | .cls l=>xs[k]? = some ⟨2,l,[],0,[]⟩
  | .any=>xs[k]? = some ⟨3,[],[],0,[]⟩
  | .group c=>∃ qs,xs[k]? = some ⟨6,[],[],0,qs⟩∧DenC xs qs c
def DenT (xs:List RE) (k:Nat):Term→Prop
  | .mk a p b=>∃ i j,(if a=0 then k=i else xs[k]? = some (wrapE (zae [a]) i))∧(if b=0 then i=j else xs[i]? = some (wrapE (zae [b]) j))∧DenP xs j p∧(b=0∨b=63∨b=42∨b=43)∧(a=0∨a=38∨a=33)
def DenS (xs:List RE):List Nat→List Term→Prop
  | ks,[]=>ks=[]
  | ks,t::s=>∃ k ks',ks=k::ks'∧DenT xs k t∧DenS xs ks' s
def DenC (xs:List RE):List Nat→List (List Term)→Prop
  | qs,[]=>qs=[]
  | qs,s::c=>∃ q qs' ks,qs=q::qs'∧xs[q]? = some ⟨5,[],[],0,ks⟩∧DenS xs ks s∧DenC xs qs' c
 end
theorem zbR {xs ys:List RE} (h:xs <+: ys) {k:Nat} {e:RE} (hk:xs[k]? = some e):ys[k]? = some e:=by
 obtain⟨zs,rfl⟩:=h
 rw[List.getElem?_append_left (List.getElem?_eq_some_iff.1 hk).1];exact hk
mutual
theorem DenP.mono {xs ys:List RE} (h:xs <+: ys) {k:Nat}:∀ p:Piece,DenP xs k p→DenP ys k p
  | .name b=>by simp only[DenP];exact zbR h
  | .lit b=>by simp only[DenP];exact zbR h
  | .cls l=>by simp only[DenP];exact zbR h
  | .any=>by simp only[DenP];exact zbR h
  | .group c=>by
    simp only[DenP]
    rintro⟨qs,h1,h2⟩
    exact⟨qs,zbR h h1,DenC.mono h c h2⟩
theorem DenT.mono {xs ys:List RE} (h:xs <+: ys) {k:Nat}:∀ t:Term,DenT xs k t→DenT ys k t
  | .mk a p b=>by
    simp only[DenT]
    rintro⟨i,j,h1,h2,h3,h4⟩
    refine⟨i,j,?_,?_,DenP.mono h p h3,h4⟩
    · split
      · rename_i ha;rw[if_pos ha] at h1;exact h1
      · rename_i ha;rw[if_neg ha] at h1;exact zbR h h1
    · split
      · rename_i ha;rw[if_pos ha] at h2;exact h2
      · rename_i ha;rw[if_neg ha] at h2;exact zbR h h2
theorem DenS.mono {xs ys:List RE} (h:xs <+: ys):∀ {ks:List Nat} (s:List Term),DenS xs ks s→DenS ys ks s
  | ks,[]=>by simp only[DenS];exact id
  | ks,t::s=>by
    simp only[DenS]
    rintro⟨k,ks',h1,h2,h3⟩
    exact⟨k,ks',h1,DenT.mono h t h2,DenS.mono h s h3⟩
theorem DenC.mono {xs ys:List RE} (h:xs <+: ys):∀ {qs:List Nat} (c:List (List Term)),DenC xs qs c→DenC ys qs c
  | qs,[]=>by simp only[DenC];exact id
  | qs,s::c=>by
    simp only[DenC]
    rintro⟨q,qs',ks,h1,h2,h3,h4⟩
    exact⟨q,qs',ks,h1,zbR h h2,DenS.mono h s h3,DenC.mono h c h4⟩
 end
theorem zdS (T:ST) (j:Nat) (sg:Bytes):(T.term j sg).xs=if sg=[] then T.xs else T.xs++[wrapE (zae sg) j]:=by
 unfold ST.term;split<;>simp[ST.push,ST.setTop,ST.add]
theorem zcr (T:ST) (j:Nat) (sg:Bytes) {pre:List OP} {o:OP} (h:T.os=pre++[o]):(T.term j sg).os=pre++[{ o with terms:=o.terms++[if sg=[] then j else T.xs.length] }]:=by
 unfold ST.term;split
 ·rename_i hs;simp[ST.push,ST.setTop,ST.top,h,List.getLastD_concat,hs]
 ·rename_i hs;simp[ST.push,ST.setTop,ST.top,ST.add,h,List.getLastD_concat]
theorem zdP (T:ST) (j:Nat) (sg:Bytes):(T.term j sg).rs=T.rs:=by
 unfold ST.term;split<;>simp[ST.push,ST.setTop,ST.add]
theorem zec (T:ST) (j:Nat) (sg:Bytes):(T.term j sg).sign=T.sign:=by
 unfold ST.term;split<;>simp[ST.push,ST.setTop,ST.add]
theorem term_may (T:ST) (j:Nat) (sg:Bytes):(T.term j sg).may=true:=by
 unfold ST.term;split<;>simp[ST.push]
structure Laid (S:ST) (pre:List OP) (o:OP) (pc:Piece) (S':ST) (xs1:List RE) (j:Nat):Prop where
 ext:S.xs <+: xs1
 den:DenP xs1 j pc
 xs:S'.xs=if S.sign=[] then xs1 else xs1++[wrapE (zae S.sign) j]
 os:S'.os=pre++[{ o with terms:=o.terms++[if S.sign=[] then j else xs1.length] }]
 rs:S'.rs=S.rs
 sign:S'.sign=[]
 may:S'.may=true
structure PcAt (d:Nat) (ts:List Tok) (S:ST) (pre:List OP) (o:OP):Prop where
 wf:Wf ts
 os:S.os=pre++[o]
 len:pre.length=d
 rs:S.rs≠[]
 deep:d≤6
 sg:S.sign=[]∨((S.sign=[38]∨S.sign=[33])∧S.may=false)
 here:S.sign=[]→zap d ts=true∧(hd ts).kind≠.sign 38∧(hd ts).kind≠.sign 33
def MPc (d:Nat) (ts:List Tok) (r:Res Piece):Prop:=∀ S pre o,PcAt d ts S pre o →
 match r with
 | .err e p=>run ts S = .error (e,p)
 | .ok pc rest=>Wf rest∧∃ S' xs1 j,run ts S=run rest S'∧Laid S pre o pc S' xs1 j
structure SqAt (d:Nat) (ts:List Tok) (S:ST) (pre:List OP) (o:OP):Prop where
 wf:Wf ts
 os:S.os=pre++[o]
 len:pre.length=d
 rs:S.rs≠[]
 deep:d≤6
 sign:S.sign=[]
 may:S.may=true→¬ zce ts
def MTm (d:Nat) (ts:List Tok) (r:Res Term):Prop:=∀ S pre o,SqAt d ts S pre o→zap d ts=true →
 match r with
 | .err e p=>run ts S = .error (e,p)
 | .ok t rest=>∃ S' k,run ts S=run rest S'∧S'.rs=S.rs∧SqAt d rest S' pre { o with terms:=o.terms++[k] }∧S.xs <+: S'.xs∧DenT S'.xs k t
def MSq (d:Nat) (ts:List Tok) (r:Res Seq):Prop:=∀ S pre o,SqAt d ts S pre o →
 match r with
 | .err e p=>run ts S = .error (e,p)
 | .ok s rest=>zap d rest=false∧∃ S' ks,run ts S=run rest S'∧S'.rs=S.rs∧SqAt d rest S' pre { o with terms:=o.terms++ks }∧S.xs <+: S'.xs∧DenS S'.xs ks s
def MCh (d:Nat) (ts:List Tok) (r:Res zat):Prop:=∀ S pre o,SqAt d ts S pre o→o.terms=[] →
 match r with
 | .err e p=>run ts S = .error (e,p)
 | .ok c rest=>zap d rest=false∧(hd rest).kind≠.sign 47∧∃ S' qs ks c0 s,run ts S=run rest S'∧S'.rs=S.rs∧SqAt d rest S' pre ⟨o.seqs++qs,ks,o.sign⟩∧S.xs <+: S'.xs∧c=c0++[s]∧DenC S'.xs qs c0∧DenS S'.xs ks s
theorem ze2 {d:Nat} {ts:List Tok} {S:ST} {pre:List OP} {o:OP} (h:PcAt d ts S pre o) {e:RE} {pc:Piece} (hd:DenP (S.xs++[e]) S.xs.length pc):Laid S pre o pc (S.lay e) (S.xs++[e]) S.xs.length:=by
 have e1:(({ S with sign:=[] }:ST).add e).xs=S.xs++[e]:=rfl
 have e2:(({ S with sign:=[] }:ST).add e).os=pre++[o]:=h.os
 refine⟨⟨[e],rfl⟩,hd,?_,?_,?_,?_,?_⟩
 ·unfold ST.lay;rw[zdS,e1]
 ·unfold ST.lay;rw[zcr _ _ _ e2,e1]
 ·unfold ST.lay;rw[zdP];rfl
 ·unfold ST.lay;rw[zec];rfl
 ·unfold ST.lay;rw[term_may]
theorem zby {xs:List RE} {e:RE}:(xs++[e])[xs.length]? = some e:=by simp
theorem m_plain {d:Nat} {ts:List Tok} {p:Piece} (hp:zad (hd ts)=some p):MPc d ts (.ok p ts.tail):=by
 intro S pre o h
 obtain⟨t,r,rfl,hok,hr⟩:=h.wf.form
 simp only[hd,List.headD_cons] at hp
 simp only[List.tail_cons]
 have hos:S.os.length=d+1:=by rw[h.os];simp[h.len]
 have hrs:=h.rs
 cases hk:t.kind with
 | name=>
  simp only[zad,hk,Option.some.injEq] at hp
  subst hp
  have hw:=hr (by rw[hk];rfl)
  have hE:DenP (S.xs++[zav t]) S.xs.length (.name t.text):=by
   simp only[DenP,zby,zav,hk]
  refine⟨hw,S.lay (zav t),S.xs++[zav t],S.xs.length,?_,ze2 h hE⟩
  obtain⟨m,r',rfl,_⟩:=hw.form
  by_cases ha:m.kind.isArrow=true
  ·have hka:m.kind = .arrow:=by
    cases hm:m.kind<;>simp[hm,TK.isArrow] at ha ⊢
   have h2:S.sign≠[]∨1<S.os.length:=by
    by_cases hs:S.sign=[]
    ·right
     have hb:=(h.here hs).1
     simp only[zap,hd,List.headD_cons,hk,List.tail_cons,ha] at hb
     have:d≠0:=by
      intro e;subst e;simp at hb
     omega
    ·exact .inl hs
   rw[zdq hk ha,if_pos h2,zcb hka]
  ·exact run_name hk hrs (by simpa using ha)
 | lit=>
  simp only[zad,hk,Option.some.injEq] at hp
  subst hp
  have hE:DenP (S.xs++[zav t]) S.xs.length (.lit t.text):=by simp only[DenP,zby,zav,hk]
  refine⟨hr (by rw[hk];rfl),S.lay (zav t),S.xs++[zav t],S.xs.length,run_lit hk hrs,ze2 h hE⟩
 | cls=>
  simp only[zad,hk,Option.some.injEq] at hp
  subst hp
  have hE:DenP (S.xs++[zav t]) S.xs.length (.cls t.spans):=by simp only[DenP,zby,zav,hk]
  refine⟨hr (by rw[hk];rfl),S.lay (zav t),S.xs++[zav t],S.xs.length,run_cls hk hrs,ze2 h hE⟩
 | sign c=>
  simp only[zad,hk] at hp
  split at hp
  ·rename_i hc
   subst hc
   simp only[Option.some.injEq] at hp
   subst hp
   have hE:DenP (S.xs++[⟨3,[],[],0,[]⟩]) S.xs.length .any:=by simp only[DenP,zby]
   refine⟨hr (by rw[hk];rfl),S.lay ⟨3,[],[],0,[]⟩,S.xs++[⟨3,[],[],0,[]⟩],S.xs.length,?_,ze2 h hE⟩
   rw[zbf hk hrs];simp[ST.signs]
  ·cases hp
 | fin=>simp[zad,hk] at hp
 | bad=>simp[zad,hk] at hp
 | arrow=>simp[zad,hk] at hp
theorem sign9 {c:UInt8} (h:signB c=true):c=47∨c=38∨c=33∨c=63∨c=42∨c=43∨c=40∨c=41∨c=46:=by
 simpa [signB] using h
theorem m_bad {d:Nat} {ts:List Tok} (hn:zad (hd ts)=none) (hk4:(hd ts).kind≠.sign 40):MPc d ts (.err 2 (hd ts).place):=by
 intro S pre o h
 obtain⟨t,r,rfl,hok,hr⟩:=h.wf.form
 simp only[hd,List.headD_cons] at hn hk4 ⊢
 have hrs:=h.rs
 have hs:S.sign≠[]∧S.may=false:=by
  rcases h.sg with hs | ⟨hs,hm⟩
  ·exfalso
   obtain⟨hb,h38,h33⟩:=h.here hs
   simp only[hd,List.headD_cons] at h38 h33
   simp only[zap,hd,List.headD_cons] at hb
   cases hk:t.kind with
   | sign c=>
    simp only[hk] at hb hk4 h38 h33
    simp only[zad,hk] at hn
    have h1:c≠46:=by intro e;subst e;simp at hn
    have h2:c≠40:=by intro e;subst e;exact hk4 rfl
    have h3:c≠38:=by intro e;subst e;exact h38 rfl
    have h4:c≠33:=by intro e;subst e;exact h33 rfl
    simp[h1,h2,h3,h4] at hb
   | name=>simp[zad,hk] at hn
   | lit=>simp[zad,hk] at hn
   | cls=>simp[zad,hk] at hn
   | fin=>simp[hk] at hb
   | bad=>simp[hk] at hb
   | arrow=>simp[hk] at hb
  ·exact⟨by rcases hs with hs | hs<;>rw[hs]<;>simp,hm⟩
 obtain⟨hs,hm⟩:=hs
 cases hk:t.kind with
 | sign c=>
  simp only[zad,hk] at hn
  have h1:c≠46:=by intro e;subst e;simp at hn
  have h2:c≠40:=by intro e;subst e;exact hk4 hk
  rw[zbf hk hrs]
  rcases sign9 (hok c hk) with rfl | rfl | rfl | rfl | rfl | rfl | rfl | rfl | rfl<;>simp[ST.signs,hs,hm] at h1 h2 ⊢
 | name=>simp[zad,hk] at hn
 | lit=>simp[zad,hk] at hn
 | cls=>simp[zad,hk] at hn
 | fin=>rw[zdG hk];simp[hs]
 | bad=>rw[zdH hk]
 | arrow=>rw[zcb hk]
theorem m_deep {ts:List Tok} (hk:(hd ts).kind = .sign 40):MPc 6 ts (.err 3 (hd ts).place):=by
 intro S pre o h
 obtain⟨t,r,rfl,hok,hr⟩:=h.wf.form
 simp only[hd,List.headD_cons] at hk ⊢
 have hos:S.os.length=7:=by rw[h.os];simp[h.len]
 rw[zbf hk h.rs];simp[ST.signs,hos]
theorem end_err {d:Nat} {ts:List Tok} {S:ST} {pre:List OP} {o:OP} (h:SqAt d ts S pre o) (hd0:d≠0) (hb:zap d ts=false) (h47:(hd ts).kind≠.sign 47) (h41:(hd ts).kind≠.sign 41):run ts S = .error (2,(hd ts).place):=by
 obtain⟨t,r,rfl,hok,hr⟩:=h.wf.form
 have hmay:=h.may
 simp only[hd,List.headD_cons,zce] at hb h47 h41 hmay ⊢
 have hrs:=h.rs
 have hos : 1<S.os.length:=by rw[h.os];simp[h.len];omega
 simp only[zap,hd,List.headD_cons] at hb
 cases hk:t.kind with
 | sign c=>
  simp only[hk] at hb h47 h41 hmay
  rw[zbf hk hrs]
  rcases sign9 (hok c hk) with rfl | rfl | rfl | rfl | rfl | rfl | rfl | rfl | rfl<;>simp[ST.signs] at hb h47 h41 hmay ⊢<;>simp[hmay]
 | name=>simp[hk,hd0] at hb
 | lit=>simp[hk] at hb
 | cls=>simp[hk] at hb
 | fin=>rw[zdG hk];simp[hos]
 | bad=>rw[zdH hk]
 | arrow=>rw[zcb hk]
theorem zdv {d:Nat} {ts:List Tok} {S:ST} {pre:List OP} {o:OP} (h:PcAt d ts S pre o) (hk:(hd ts).kind = .sign 40) (hd6:d≠6) :
  run ts S=run ts.tail { S with os:=S.os++[⟨[],[],S.sign⟩],sign:=[],may:=false }∧SqAt (d+1) ts.tail { S with os:=S.os++[⟨[],[],S.sign⟩],sign:=[],may:=false } (pre++[o]) ⟨[],[],S.sign⟩:=by
 obtain⟨t,r,rfl,hok,hr⟩:=h.wf.form
 simp only[hd,List.headD_cons] at hk
 have hos:S.os.length=d+1:=by rw[h.os];simp[h.len]
 have hdp:=h.deep
 refine⟨?_,⟨hr (by rw[hk];rfl),by simp[h.os],by simp[h.len],h.rs,by omega,rfl,by simp⟩⟩
 have:¬ 6<S.os.length:=by omega
 simp only[List.tail_cons]
 rw[zbf hk h.rs];simp[ST.signs,this]
theorem zdf {S:ST} {pre:List OP} {o:OP} (h:S.os=pre++[o]):S.slash.os=pre++[⟨o.seqs++[S.xs.length],[],o.sign⟩]∧S.slash.xs=S.xs++[⟨5,[],[],0,o.terms⟩]∧S.slash.rs=S.rs∧S.slash.sign=S.sign:=by
 simp[ST.slash,ST.setTop,ST.add,ST.top,h,List.getLastD_concat]
theorem zcf {S:ST} {pre:List OP} {o:OP} (h:S.os=pre++[o]):S.closed.os=pre∧S.closed.xs=S.xs++[⟨5,[],[],0,o.terms⟩]++[⟨6,[],[],0,o.seqs++[S.xs.length]⟩]∧S.closed.rs=S.rs∧S.closed.sign=S.sign:=by
 obtain⟨h1,h2,h3,h4⟩:=zdf h
 simp[ST.closed,ST.add,h2,h3,h4,ST.top,h,List.getLastD_concat]
theorem DenC.snoc {xs:List RE}:∀ {qs:List Nat} (c:List (List Term)) {q:Nat} {ks:List Nat} {s:List Term},DenC xs qs c→xs[q]? = some ⟨5,[],[],0,ks⟩→DenS xs ks s→DenC xs (qs++[q]) (c++[s])
 | qs,[],q,ks,s=>by
  intro h h1 h2
  simp only[DenC] at h
  subst h
  simp only[List.nil_append,DenC]
  exact⟨q,[],ks,rfl,h1,h2,rfl⟩
 | qs,s0::c,q,ks,s=>by
  intro h h1 h2
  simp only[DenC] at h
  obtain⟨q0,qs',ks',rfl,g1,g2,g3⟩:=h
  simp only[List.cons_append,DenC]
  exact⟨q0,qs'++[q],ks',rfl,g1,g2,DenC.snoc c g3 h1 h2⟩
theorem m_group {d:Nat} {ts:List Tok} {c:zat} {rest:List Tok} (hk:(hd ts).kind = .sign 40) (hd6:d≠6) (hcl:(hd rest).kind = .sign 41) (ih:MCh (d+1) ts.tail (.ok c rest)):MPc d ts (.ok (.group c) rest.tail):=by
 intro S pre o h
 obtain⟨h1,h2⟩:=zdv h hk hd6
 obtain⟨_,_,S',qs,ks,c0,s,e1,er,e2,e3,rfl,e5,e6⟩:=ih _ _ _ h2 rfl
 obtain⟨t,r,rfl,hok,hr⟩:=e2.wf.form
 simp only[hd,List.headD_cons] at hcl
 simp only[List.nil_append] at e2
 obtain⟨f1,f2,f3,f4⟩:=zcf e2.os
 have hos : 2≤S'.os.length:=by rw[e2.os];simp
 have htop:S'.top.sign=S.sign:=by simp[ST.top,e2.os,List.getLastD_concat]
 have hxs1:S'.xs <+: S'.closed.xs:=by rw[f2];exact⟨[⟨5,[],[],0,ks⟩,⟨6,[],[],0,qs++[S'.xs.length]⟩],by simp⟩
 refine⟨hr (by rw[hcl];rfl),S'.closed.term (S'.xs.length+1) S.sign,S'.closed.xs,S'.xs.length+1,?_,?_⟩
 ·rw[h1,e1]
  rw[zbf hcl e2.rs];simp[ST.signs,e2.sign,hos,htop]
 ·refine⟨e3.trans hxs1,?_,zdS _ _ _,zcr _ _ _ f1,?_,?_,term_may _ _ _⟩
  ·simp only[DenP]
   refine⟨qs++[S'.xs.length],by rw[f2];simp,DenC.snoc c0 (DenC.mono hxs1 c0 e5) (ks:=ks) (by rw[f2];simp) (DenS.mono hxs1 s e6)⟩
  ·rw[zdP,f3,er]
  ·rw[zec,f4];exact e2.sign
theorem m_unclosed {d:Nat} {ts:List Tok} {c:zat} {rest:List Tok} (hk:(hd ts).kind = .sign 40) (hd6:d≠6) (hcl:(hd rest).kind≠.sign 41) (ih:MCh (d+1) ts.tail (.ok c rest)):MPc d ts (.err 2 (hd rest).place):=by
 intro S pre o h
 obtain⟨h1,h2⟩:=zdv h hk hd6
 obtain⟨hb,h47,S',qs,ks,c0,s,e1,er,e2,_⟩:=ih _ _ _ h2 rfl
 show run ts S=_
 rw[h1,e1]
 exact end_err e2 (by omega) hb h47 hcl
theorem m_inner {d:Nat} {ts:List Tok} {e p:Nat} (hk:(hd ts).kind = .sign 40) (hd6:d≠6) (ih:MCh (d+1) ts.tail (.err e p)):MPc d ts (.err e p):=by
 intro S pre o h
 obtain⟨h1,h2⟩:=zdv h hk hd6
 show run ts S=_
 rw[h1]
 exact ih _ _ _ h2 rfl
theorem DenP.kind {xs:List RE} {j:Nat} {p:Piece} (h:DenP xs j p):∃ x,xs[j]? = some x∧¬ (x.kind=10∨x.kind=11):=by
 cases p with
 | name b=>simp only[DenP] at h;exact⟨_,h,by simp⟩
 | lit b=>simp only[DenP] at h;exact⟨_,h,by simp⟩
 | cls l=>simp only[DenP] at h;exact⟨_,h,by simp⟩
 | any=>simp only[DenP] at h;exact⟨_,h,by simp⟩
 | group c=>simp only[DenP] at h;obtain⟨qs,h,_⟩:=h;exact⟨_,h,by simp⟩
theorem behindOf_some {t:Tok} {r:List Tok} {b:UInt8} (hk:t.kind = .sign b) (hb:b=63∨b=42∨b=43):zak (t::r)=(b,r):=by
 unfold zak;simp only[hd,List.headD_cons,hk]
 rw[if_pos hb];rfl
theorem behindOf_none {ts:List Tok} (h:¬ zce ts):zak ts=(0,ts):=by
 unfold zak
 split
 ·rename_i c hc
  rw[if_neg]
  rintro (rfl | rfl | rfl)
  ·exact h (.inl hc)
  ·exact h (.inr (.inl hc))
  ·exact h (.inr (.inr hc))
 ·rfl
theorem behind_part {d:Nat} {S:ST} {pre:List OP} {o:OP} {pc:Piece} {S':ST} {xs1:List RE} {j:Nat} {rest:List Tok} {a:UInt8} (h:Laid S pre o pc S' xs1 j) (hw:Wf rest) (hlen:pre.length=d) (hrs:S.rs≠[]) (hdp:d≤6)
  (ha:(a=0∧S.sign=[])∨(S.sign=[a]∧(a=38∨a=33))) :
  ∃ S2 k,run rest S'=run (zak rest).2 S2∧S2.rs=S.rs∧SqAt d (zak rest).2 S2 pre { o with terms:=o.terms++[k] }∧S.xs <+: S2.xs∧DenT S2.xs k (.mk a pc (zak rest).1):=by
 obtain⟨x,hx1,hx2⟩:=h.den.kind
 have hjl:j<xs1.length:=(List.getElem?_eq_some_iff.1 hx1).1
 by_cases hbt:zce rest
 ·obtain⟨t,r,rfl,hok,hr⟩:=hw.form
  obtain⟨b,hk,hb⟩:∃ b,t.kind = .sign b∧(b=63∨b=42∨b=43):=by
   simp only[zce,hd,List.headD_cons] at hbt
   rcases hbt with hk | hk | hk
   ·exact⟨63,hk,.inl rfl⟩
   ·exact⟨42,hk,.inr (.inl rfl)⟩
   ·exact⟨43,hk,.inr (.inr rfl)⟩
  have hb0:b≠0:=by rcases hb with rfl | rfl | rfl<;>decide
  rw[behindOf_some hk hb]
  have hrun:run (t::r) S'=run r (S'.behind [b]):=by
   rw[zbf hk (by rw[h.rs];exact hrs)]
   rcases hb with rfl | rfl | rfl<;>simp[ST.signs,h.may]
  have htop:S'.top = { o with terms:=o.terms++[if S.sign=[] then j else xs1.length] }:=by simp[ST.top,h.os,List.getLastD_concat]
  have hlast:S'.top.terms.getLastD 0=if S.sign=[] then j else xs1.length:=by rw[htop];simp[List.getLastD_concat]
  rcases ha with ⟨rfl,hs⟩ | ⟨hs,ha⟩
  ·-- no sign ahead
   rw[if_pos hs] at hlast
   have hxs:S'.xs=xs1:=by rw[h.xs,if_pos hs]
   have hgd:S'.xs.getD j RE.z=x:=by rw[hxs,List.getD_eq_getElem?_getD,hx1];rfl
   have hbe:S'.behind [b] = { (S'.add (wrapE (zae [b]) j)).setTop { S'.top with terms:=S'.top.terms.dropLast++[S'.xs.length] } with may:=false }:=by
    unfold ST.behind;simp only[hlast,hgd,if_neg hx2]
   refine⟨S'.behind [b],xs1.length,hrun,?_,⟨hr (by rw[hk];rfl),?_,hlen,?_,hdp,?_,?_⟩,?_,?_⟩
   ·rw[hbe];exact h.rs
   ·rw[hbe];simp[ST.setTop,ST.add,htop,h.os,hs,hxs]
   ·rw[hbe];simp[ST.setTop,ST.add,h.rs,hrs]
   ·rw[hbe];simp[ST.setTop,ST.add,h.sign]
   ·rw[hbe];simp
   ·rw[hbe];simp only[ST.setTop,ST.add,hxs];exact h.ext.trans ⟨[wrapE (zae [b]) j],rfl⟩
   ·rw[hbe];simp only[ST.setTop,ST.add,hxs,DenT]
    refine⟨xs1.length,j,by simp,?_,DenP.mono ⟨[wrapE (zae [b]) j],rfl⟩ _ h.den,.inr hb,.inl (by trivial)⟩
    rw[if_neg hb0];exact zby
  ·-- a sign ahead
   have hs0:S.sign≠[]:=by rw[hs];simp
   have ha0:a≠0:=by rcases ha with rfl | rfl<;>decide
   rw[if_neg hs0] at hlast
   have hxs:S'.xs=xs1++[wrapE (zae [a]) j]:=by rw[h.xs,if_neg hs0,hs]
   have hgd:S'.xs.getD xs1.length RE.z=wrapE (zae [a]) j:=by rw[hxs,List.getD_eq_getElem?_getD,zby];rfl
   have hak:(wrapE (zae [a]) j).kind=10∨(wrapE (zae [a]) j).kind=11:=by
    rcases ha with rfl | rfl
    ·left;rfl
    ·right;rfl
   have hbe:S'.behind [b] = { S' with xs:=(S'.xs++[wrapE (zae [b]) j]).set xs1.length (wrapE (zae [a]) S'.xs.length),may:=false }:=by
    unfold ST.behind;simp only[hlast,hgd,if_pos hak];rfl
   have hx':(S'.xs++[wrapE (zae [b]) j]).set xs1.length (wrapE (zae [a]) S'.xs.length)=xs1++[wrapE (zae [a]) (xs1.length+1),wrapE (zae [b]) j]:=by
    rw[hxs];simp
   refine⟨S'.behind [b],xs1.length,hrun,?_,⟨hr (by rw[hk];rfl),?_,hlen,?_,hdp,?_,?_⟩,?_,?_⟩
   ·rw[hbe];exact h.rs
   ·rw[hbe];simp[h.os,hs0]
   ·rw[hbe];simp[h.rs,hrs]
   ·rw[hbe];simp[h.sign]
   ·rw[hbe];simp
   ·rw[hbe];simp only[hx'];exact h.ext.trans ⟨_,rfl⟩
   ·rw[hbe];simp only[hx',DenT]
    refine⟨xs1.length+1,j,?_,?_,DenP.mono ⟨_,rfl⟩ _ h.den,.inr hb,.inr ha⟩
    ·rw[if_neg ha0];simp
    ·rw[if_neg hb0];simp
 ·rw[behindOf_none hbt]
  rcases ha with ⟨rfl,hs⟩ | ⟨hs,ha⟩
  ·have hxs:S'.xs=xs1:=by rw[h.xs,if_pos hs]
   refine⟨S',j,rfl,h.rs,⟨hw,by rw[h.os,if_pos hs],hlen,by rw[h.rs];exact hrs,hdp,h.sign,fun _=>hbt⟩,by rw[hxs];exact h.ext,?_⟩
   simp only[DenT]
   exact⟨j,j,by simp,by simp,by rw[hxs];exact h.den,.inl (by trivial),.inl (by trivial)⟩
  ·have hs0:S.sign≠[]:=by rw[hs];simp
   have ha0:a≠0:=by rcases ha with rfl | rfl<;>decide
   have hxs:S'.xs=xs1++[wrapE (zae [a]) j]:=by rw[h.xs,if_neg hs0,hs]
   refine⟨S',xs1.length,rfl,h.rs,⟨hw,by rw[h.os,if_neg hs0],hlen,by rw[h.rs];exact hrs,hdp,h.sign,fun _=>hbt⟩,by rw[hxs];exact h.ext.trans ⟨_,rfl⟩,?_⟩
   simp only[DenT]
   refine⟨j,j,?_,by simp,by rw[hxs];exact DenP.mono ⟨_,rfl⟩ _ h.den,.inl (by trivial),.inr ha⟩
   rw[if_neg ha0,hxs];exact zby
theorem zeJ {d:Nat} {ts:List Tok} {S:ST} {pre:List OP} {o:OP} (h:SqAt d ts S pre o) (hb:zap d ts=true) :
  ∃ S1,run ts S=run (zao ts).2 S1∧S1.xs=S.xs∧S1.rs=S.rs∧PcAt d (zao ts).2 S1 pre o∧(((zao ts).1=0∧S1.sign=[])∨(S1.sign=[(zao ts).1]∧((zao ts).1=38∨(zao ts).1=33))):=by
 obtain⟨t,r,rfl,hok,hr⟩:=h.wf.form
 by_cases hc:∃ c,t.kind = .sign c∧(c=38∨c=33)
 ·obtain⟨c,hk,hc⟩:=hc
  have e:zao (t::r)=(c,r):=by
   unfold zao;simp only[hd,List.headD_cons,hk];rw[if_pos hc];rfl
  rw[e]
  refine⟨{ S with sign:=[c],may:=false },?_,rfl,rfl,⟨hr (by rw[hk];rfl),h.os,h.len,h.rs,h.deep,.inr ⟨by rcases hc with rfl | rfl<;>simp,rfl⟩,fun he=>by simp at he⟩,.inr ⟨rfl,hc⟩⟩
  rw[zbf hk h.rs]
  rcases hc with rfl | rfl<;>simp[ST.signs,h.sign]
 ·have e:zao (t::r)=(0,t::r):=by
   unfold zao;simp only[hd,List.headD_cons]
   split
   ·rename_i c hk
    rw[if_neg]
    intro h'
    exact hc ⟨c,hk,h'⟩
   ·rfl
  rw[e]
  refine⟨S,rfl,rfl,rfl,⟨h.wf,h.os,h.len,h.rs,h.deep,.inl h.sign,fun _=>⟨hb,?_,?_⟩⟩,.inl ⟨rfl,h.sign⟩⟩
  ·intro hk;exact hc ⟨38,hk,.inl rfl⟩
  ·intro hk;exact hc ⟨33,hk,.inr rfl⟩
theorem m_termOk {d:Nat} {ts:List Tok} {p:Piece} {rest:List Tok} (ih:MPc d (zao ts).2 (.ok p rest)):MTm d ts (.ok (.mk (zao ts).1 p (zak rest).1) (zak rest).2):=by
 intro S pre o h hb
 obtain⟨S1,h1,h2,h3,h4,h5⟩:=zeJ h hb
 obtain⟨hw,S',xs1,j,g1,g2⟩:=ih S1 pre o h4
 obtain⟨S2,k,k1,k2,k3,k4,k5⟩:=behind_part g2 hw h4.len h4.rs h4.deep h5
 exact⟨S2,k,by rw[h1,g1,k1],by rw[k2,h3],k3,by rw[← h2];exact k4,k5⟩
theorem m_termErr {d:Nat} {ts:List Tok} {e p:Nat} (ih:MPc d (zao ts).2 (.err e p)):MTm d ts (.err e p):=by
 intro S pre o h hb
 obtain⟨S1,h1,h2,h3,h4,h5⟩:=zeJ h hb
 show run ts S=_
 rw[h1];exact ih S1 pre o h4
theorem m_seqNil {d:Nat} {ts:List Tok} (hb:zap d ts=false):MSq d ts (.ok [] ts):=by
 intro S pre o h
 refine⟨hb,S,[],rfl,rfl,?_,List.prefix_refl _,by simp[DenS]⟩
 simpa using h
theorem m_seqCons {d:Nat} {ts:List Tok} {t:Term} {rest:List Tok} {s:Seq} {rest':List Tok} (hb:zap d ts=true) (iht:MTm d ts (.ok t rest)) (ihs:MSq d rest (.ok s rest')):MSq d ts (.ok (t::s) rest'):=by
 intro S pre o h
 obtain⟨S1,k,h1,h2,h3,h4,h5⟩:=iht S pre o h hb
 obtain⟨hb',S2,ks,g1,g2,g3,g4,g5⟩:=ihs S1 pre _ h3
 refine⟨hb',S2,k::ks,by rw[h1,g1],by rw[g2,h2],by simpa using g3,h4.trans g4,?_⟩
 simp only[DenS]
 exact⟨k,ks,rfl,DenT.mono g4 t h5,g5⟩
theorem m_seqErr {d:Nat} {ts:List Tok} {e p:Nat} (hb:zap d ts=true) (iht:MTm d ts (.err e p)):MSq d ts (.err e p):=fun S pre o h=>iht S pre o h hb
theorem m_seqLater {d:Nat} {ts:List Tok} {t:Term} {rest:List Tok} {e p:Nat} (hb:zap d ts=true) (iht:MTm d ts (.ok t rest)) (ihs:MSq d rest (.err e p)):MSq d ts (.err e p):=by
 intro S pre o h
 obtain⟨S1,k,h1,h2,h3,h4,h5⟩:=iht S pre o h hb
 show run ts S=_
 rw[h1];exact ihs S1 pre _ h3
theorem m_chLast {d:Nat} {ts:List Tok} {s:Seq} {rest:List Tok} (hk:(hd rest).kind≠.sign 47) (ihs:MSq d ts (.ok s rest)):MCh d ts (.ok [s] rest):=by
 intro S pre o h ho
 obtain⟨hb,S1,ks,h1,h2,h3,h4,h5⟩:=ihs S pre o h
 refine⟨hb,hk,S1,[],ks,[],s,h1,h2,?_,h4,rfl,by simp[DenC],h5⟩
 rw[ho] at h3;simpa using h3
theorem zeK {d:Nat} {ts:List Tok} {S:ST} {pre:List OP} {o:OP} (h:SqAt d ts S pre o) (hk:(hd ts).kind = .sign 47) :
  run ts S=run ts.tail { S.slash with may:=false }∧SqAt d ts.tail { S.slash with may:=false } pre ⟨o.seqs++[S.xs.length],[],o.sign⟩:=by
 obtain⟨t,r,rfl,hok,hr⟩:=h.wf.form
 simp only[hd,List.headD_cons] at hk
 obtain⟨h1,h2,h3,h4⟩:=zdf h.os
 refine⟨?_,⟨hr (by rw[hk];rfl),h1,h.len,by simp only[h3];exact h.rs,h.deep,by simp only[h4];exact h.sign,by simp⟩⟩
 rw[zbf hk h.rs];simp[ST.signs,h.sign]
theorem m_chMore {d:Nat} {ts:List Tok} {s:Seq} {rest:List Tok} {c:zat} {rest':List Tok} (hk:(hd rest).kind = .sign 47) (ihs:MSq d ts (.ok s rest)) (ihc:MCh d rest.tail (.ok c rest')):MCh d ts (.ok (s::c) rest'):=by
 intro S pre o h ho
 obtain⟨_,S1,ks,h1,h2,h3,h4,h5⟩:=ihs S pre o h
 obtain⟨g1,g2⟩:=zeK h3 hk
 obtain⟨_,f2,f3,_⟩:=zdf h3.os
 obtain⟨hb,h47,S2,qs,ks2,c0,s2,e1,er,e2,e3,rfl,e5,e6⟩:=ihc _ _ _ g2 rfl
 have e3':S1.xs++[⟨5,[],[],0,o.terms++ks⟩] <+: S2.xs:=by
  have:({ S1.slash with may:=false }:ST).xs=S1.xs++[⟨5,[],[],0,o.terms++ks⟩]:=f2
  rw[← this];exact e3
 rw[ho,List.nil_append] at e3'
 have hS1:S1.xs <+: S2.xs:=(List.prefix_append _ _).trans e3'
 refine⟨hb,h47,S2,S1.xs.length::qs,ks2,s::c0,s2,by rw[h1,g1,e1],?_,?_,h4.trans hS1,rfl,?_,e6⟩
 ·rw[er];show S1.slash.rs=_;rw[f3,h2]
 ·simpa using e2
 ·simp only[DenC]
  exact⟨S1.xs.length,qs,ks,rfl,zbR e3' zby,DenS.mono hS1 s h5,e5⟩
theorem m_chErr {d:Nat} {ts:List Tok} {e p:Nat} (ihs:MSq d ts (.err e p)):MCh d ts (.err e p):=fun S pre o h _=>ihs S pre o h
theorem m_chLater {d:Nat} {ts:List Tok} {s:Seq} {rest:List Tok} {e p:Nat} (hk:(hd rest).kind = .sign 47) (ihs:MSq d ts (.ok s rest)) (ihc:MCh d rest.tail (.err e p)):MCh d ts (.err e p):=by
 intro S pre o h ho
 obtain⟨_,S1,ks,h1,h2,h3,h4,h5⟩:=ihs S pre o h
 obtain⟨g1,g2⟩:=zeK h3 hk
 show run ts S=_
 rw[h1,g1];exact ihc _ _ _ g2 rfl
theorem zeI {d:Nat} {ts:List Tok} {r:Res zat} (h:PChoice d ts r):MCh d ts r:=by
 refine PChoice.rec (motive_1:=fun d ts r _=>MPc d ts r) (motive_2:=fun d ts r _=>MTm d ts r) (motive_3:=fun d ts r _=>MSq d ts r) (motive_4:=fun d ts r _=>MCh d ts r) ?_ ?_ ?_ ?_ ?_ ?_ ?_ ?_ ?_ ?_ ?_ ?_ ?_ ?_ ?_ ?_ h
 ·intro d ts p hp;exact m_plain hp
 ·intro d ts hn hk;exact m_bad hn hk
 ·intro ts hk;exact m_deep hk
 ·intro d ts c rest hk hd _ hcl ih;exact m_group hk hd hcl ih
 ·intro d ts c rest hk hd _ hcl ih;exact m_unclosed hk hd hcl ih
 ·intro d ts e p hk hd _ ih;exact m_inner hk hd ih
 ·intro d ts p rest _ ih;exact m_termOk ih
 ·intro d ts e p _ ih;exact m_termErr ih
 ·intro d ts hb;exact m_seqNil hb
 ·intro d ts t rest s rest' hb _ _ iht ihs;exact m_seqCons hb iht ihs
 ·intro d ts e p hb _ iht;exact m_seqErr hb iht
 ·intro d ts t rest e p hb _ _ iht ihs;exact m_seqLater hb iht ihs
 ·intro d ts s rest _ hk ihs;exact m_chLast hk ihs
 ·intro d ts s rest c rest' _ hk _ ihs ihc;exact m_chMore hk ihs ihc
 ·intro d ts e p _ ihs;exact m_chErr ihs
 ·intro d ts s rest e p _ hk _ ihs ihc;exact m_chLater hk ihs ihc
def DenR (xs:List RE):List (Bytes × Nat)→List Rule→Prop
 | [],[]=>True
 | x::rs,r::g=>x.1=r.name∧DenP xs x.2 (.group r.choice)∧DenR xs rs g
 | _,_=>False
theorem DenR.mono {xs ys:List RE} (h:xs <+: ys):∀ (rs:List (Bytes × Nat)) (g:List Rule),DenR xs rs g→DenR ys rs g
 | [],[]=>id
 | x::rs,r::g=>fun ⟨h1,h2,h3⟩=>⟨h1,DenP.mono h _ h2,DenR.mono h rs g h3⟩
 | [],_::_=>fun h=>h.elim
 | _::_,[]=>fun h=>h.elim
theorem DenR.snoc {xs:List RE}:∀ (rs:List (Bytes × Nat)) (g:List Rule) {b:Bytes} {k:Nat} {r:Rule},DenR xs rs g→b=r.name→DenP xs k (.group r.choice)→DenR xs (rs++[(b,k)]) (g++[r])
 | [],[],_,_,_=>fun _ h1 h2=>⟨h1,h2,trivial⟩
 | x::rs,r0::g,_,_,_=>fun ⟨h0,h1,h2⟩ h3 h4=>⟨h0,h1,DenR.snoc rs g h2 h3 h4⟩
 | [],_::_,_,_,_=>fun h=>h.elim
 | _::_,[],_,_,_=>fun h=>h.elim
def S0:ST:=⟨[],[],[],[],false⟩
structure Btw (n:Nat) (ts:List Tok) (S:ST) (g0:List Rule):Prop where
 at0:∃ o,SqAt 0 ts S [] o∧∃ rr nm c0 s gg,g0=gg++[⟨nm,c0++[s]⟩]∧S.rs=rr++[(nm,0)]∧rr.length+1=n∧DenR S.xs rr gg∧DenC S.xs o.seqs c0∧DenS S.xs o.terms s
 none:zap 0 ts=false
 slash:(hd ts).kind≠.sign 47
def Start (n:Nat) (ts:List Tok) (S:ST) (g0:List Rule):Prop:=(n=0∧S=S0∧g0=[]∧Wf ts)∨Btw n ts S g0
theorem Start.wf {n:Nat} {ts:List Tok} {S:ST} {g0:List Rule} (h:Start n ts S g0):Wf ts:=by
 rcases h with ⟨_,_,_,h⟩ | h
 ·exact h
 ·obtain⟨o,h1,_⟩:=h.at0;exact h1.wf
theorem zen {n:Nat} {ts:List Tok} {S:ST} {g0:List Rule} (h:Start n ts S g0):S.rule.os=[]∧S.rule.rs.length=n∧S.rule.sign=[]∧DenR S.rule.xs S.rule.rs g0∧S.sign=[]∧S.os.length≤1∧S.rs.length=n:=by
 rcases h with ⟨rfl,rfl,rfl,_⟩ | h
 ·simp[ST.rule,S0,DenR]
 ·obtain⟨o,h1,rr,nm,c0,s,gg,rfl,h3,h4,h5,h6,h7⟩:=h.at0
  have hos:S.os=[]++[o]:=h1.os
  obtain⟨f1,f2,f3,f4⟩:=zcf hos
  have hrs:S.rs≠[]:=h1.rs
  have e:S.rule = { S.closed with rs:=rr++[(nm,S.xs.length+1)] }:=by
   unfold ST.rule;rw[if_neg hrs,h3];simp[List.getLastD_concat]
  have hx:S.xs <+: S.closed.xs:=by rw[f2,List.append_assoc];exact List.prefix_append _ _
  rw[e]
  refine⟨f1,by simp[h4],by simp only[f4];exact h1.sign,?_,h1.sign,by rw[hos];simp,by rw[h3];simp[h4]⟩
  refine DenR.snoc rr gg (DenR.mono hx _ _ h5) rfl ?_
  simp only[DenP]
  refine⟨o.seqs++[S.xs.length],by rw[f2];simp,DenC.snoc c0 (DenC.mono hx c0 h6) (ks:=o.terms) (by rw[f2];simp) (DenS.mono hx s h7)⟩
theorem zeV {n:Nat} {t m:Tok} {r:List Tok} {S:ST} {g0:List Rule} (h:Start n (t::m::r) S g0) (hk:t.kind = .name) (ha:m.kind = .arrow) (hn:n<20) :
  run (t::m::r) S=run r (S.begin t.text)∧SqAt 0 r (S.begin t.text) [] ⟨[],[],[]⟩∧(S.begin t.text).rs=S.rule.rs++[(t.text,0)]∧DenR (S.begin t.text).xs S.rule.rs g0∧S.rule.rs.length=n:=by
 obtain⟨h1,h2,h3,h4,h5,h6,h7⟩:=zen h
 have hw:=h.wf
 have hw1:Wf (m::r):=by
  have:=hw.2;rw[if_neg (by simp[hk,TK.last])] at this;exact this
 have hw2:Wf r:=by
  have:=hw1.2;rw[if_neg (by simp[ha,TK.last])] at this;exact this
 refine⟨?_,⟨hw2,by simp[ST.begin,h1],rfl,by simp[ST.begin],by omega,by simpa [ST.begin] using h3,by simp[ST.begin]⟩,rfl,h4,h2⟩
 rw[zdq hk (by rw[ha];rfl),if_neg (by rintro (h' | h');exact h' h5;omega),if_neg (by omega)]
theorem rule_btw {n:Nat} {t m:Tok} {r:List Tok} {S:ST} {g0:List Rule} {c:zat} {rest:List Tok} (h:Start n (t::m::r) S g0) (hk:t.kind = .name) (ha:m.kind = .arrow) (hn:n<20) (hc:PChoice 0 r (.ok c rest)) :
  ∃ S',run (t::m::r) S=run rest S'∧Btw (n+1) rest S' (g0++[⟨t.text,c⟩]):=by
 obtain⟨h1,h2,h3,h4,h5⟩:=zeV h hk ha hn
 obtain⟨hb,h47,S',qs,ks,c0,s,e1,er,e2,e3,rfl,e5,e6⟩:=zeI hc _ _ _ h2 rfl
 refine⟨S',by rw[h1,e1],⟨⟨_,e2,S.rule.rs,t.text,c0,s,g0,rfl,by rw[er,h3],by rw[h5],DenR.mono e3 _ _ h4,?_,e6⟩,hb,h47⟩⟩
 simpa using e5
theorem rule_err {n:Nat} {t m:Tok} {r:List Tok} {S:ST} {g0:List Rule} {e p:Nat} (h:Start n (t::m::r) S g0) (hk:t.kind = .name) (ha:m.kind = .arrow) (hn:n<20) (hc:PChoice 0 r (.err e p)):run (t::m::r) S = .error (e,p):=by
 obtain⟨h1,h2,_⟩:=zeV h hk ha hn
 rw[h1];exact zeI hc _ _ _ h2 rfl
theorem no_name {n:Nat} {ts:List Tok} {S:ST} {g0:List Rule} (h:Start n ts S g0) (hk:(hd ts).kind≠.name) (hf:n≠0→(hd ts).kind≠.fin):run ts S = .error (2,(hd ts).place):=by
 obtain⟨t,r,rfl,hok,hr⟩:=h.wf.form
 simp only[hd,List.headD_cons] at hk hf ⊢
 rcases h with ⟨rfl,rfl,rfl,_⟩ | h
 ·cases hq:t.kind with
  | name=>exact absurd hq hk
  | bad=>rw[zdH hq]
  | arrow=>rw[zcb hq]
  | fin=>rw[zdG hq];simp[S0]
  | sign c=>rw[run.eq_def];simp[hq,S0]
  | lit=>rw[run.eq_def];simp[hq,S0]
  | cls=>rw[run.eq_def];simp[hq,S0]
 ·have hb:=h.none
  have h47:=h.slash
  obtain⟨o,h1,rr,nm,c0,s,gg,_,h3,h4,_⟩:=h.at0
  have hmay:=h1.may
  have hos:S.os=[]++[o]:=h1.os
  have hol:¬ 2≤S.os.length:=by rw[hos];simp
  simp only[zap,hd,List.headD_cons] at hb
  simp only[hd,List.headD_cons,zce] at h47 hmay
  cases hq:t.kind with
  | name=>exact absurd hq hk
  | bad=>rw[zdH hq]
  | arrow=>rw[zcb hq]
  | fin=>exact absurd hq (hf (by omega))
  | lit=>simp[hq] at hb
  | cls=>simp[hq] at hb
  | sign c=>
   simp only[hq] at hb h47 hmay
   rw[zbf hq h1.rs]
   rcases sign9 (hok c hq) with rfl | rfl | rfl | rfl | rfl | rfl | rfl | rfl | rfl<;>simp[ST.signs,hol] at hb h47 hmay ⊢<;>simp[hmay]
theorem no_arrow {n:Nat} {ts:List Tok} {S:ST} {g0:List Rule} (h:Start n ts S g0) (hk:(hd ts).kind = .name) (ha:(hd ts.tail).kind≠.arrow):run ts S = .error (2,(hd ts.tail).place):=by
 obtain⟨t,r,rfl,hok,hr⟩:=h.wf.form
 simp only[hd,List.headD_cons] at hk
 obtain⟨m,r',rfl,_⟩:=(hr (by rw[hk];rfl)).form
 simp only[hd,List.headD_cons,List.tail_cons] at ha ⊢
 have ha':m.kind.isArrow=false:=by
  cases hm:m.kind with
  | arrow=>exact absurd hm ha
  | _=>rfl
 rcases h with ⟨rfl,rfl,rfl,_⟩ | h
 ·rw[run.eq_def];simp[hk,ha',S0]
 ·have hb:=h.none
  simp[zap,hd,hk,ha'] at hb
theorem many_rules {ts:List Tok} {S:ST} {g0:List Rule} (h:Start 20 ts S g0) (hk:(hd ts).kind = .name) (ha:(hd ts.tail).kind = .arrow):run ts S = .error (4,(hd ts.tail).place):=by
 obtain⟨t,r,rfl,hok,hr⟩:=h.wf.form
 simp only[hd,List.headD_cons] at hk
 obtain⟨m,r',rfl,_⟩:=(hr (by rw[hk];rfl)).form
 simp only[hd,List.headD_cons,List.tail_cons] at ha ⊢
 obtain⟨h1,h2,h3,h4,h5,h6,h7⟩:=zen h
 rw[zdq hk (by rw[ha];rfl),if_neg (by rintro (h' | h');exact h' h5;omega),if_pos (by omega)]
theorem zdW {n:Nat} {ts:List Tok} {r:Res Rule} (hp:PRule n ts r) {S:ST} {g0:List Rule} (h:Start n ts S g0) (hn:n≤20) (hf:n≠0→(hd ts).kind≠.fin) :
  match r with
  | .err e p=>run ts S = .error (e,p)
  | .ok ru rest=>∃ S',run ts S=run rest S'∧Btw (n+1) rest S' (g0++[ru]):=by
 cases hp with
 | noName hk=>exact no_name h hk hf
 | many hk ha=>exact many_rules h hk ha
 | noArrow hk ha=>exact no_arrow h hk ha
 | ok hk ha hn' hc=>
  obtain⟨t,r,rfl,hok,hr⟩:=h.wf.form
  simp only[hd,List.headD_cons] at hk
  obtain⟨m,r',rfl,_⟩:=(hr (by rw[hk];rfl)).form
  exact rule_btw h hk ha (by omega) hc
 | err hk ha hn' hc=>
  obtain⟨t,r,rfl,hok,hr⟩:=h.wf.form
  simp only[hd,List.headD_cons] at hk
  obtain⟨m,r',rfl,_⟩:=(hr (by rw[hk];rfl)).form
  exact rule_err h hk ha (by omega) hc
theorem gram_sim {n:Nat} {ts:List Tok} {res:Except (Nat × Nat) (List Rule)} (hp:PGram n ts res):∀ (S:ST) (g0:List Rule),Start n ts S g0→n≤20→(n≠0→(hd ts).kind≠.fin) →
  match res with
  | .error x=>run ts S = .error x
  | .ok g=>∃ S',run ts S = .ok S'∧DenR S'.xs S'.rs (g0++g):=by
 induction hp with
 | last hr hk=>
  intro S g0 h hn hf
  obtain⟨S',h1,h2⟩:=zdW hr h hn hf
  obtain⟨f1,f2,f3,f4,f5,f6,f7⟩:=zen (.inr h2)
  refine⟨S'.rule,?_,f4⟩
  obtain⟨o,hq,_⟩:=h2.at0
  obtain⟨t,r,rfl,_⟩:=hq.wf.form
  have hk':t.kind = .fin:=hk
  rw[h1,zdG hk',if_neg]
  rintro (h' | h' | h')
  ·exact hq.rs h'
  ·exact h' f5
  ·omega
 | more hr hk _ ih=>
  intro S g0 h hn hf
  rename_i n' _ _ _ _ _
  obtain⟨S',h1,h2⟩:=zdW hr h hn hf
  have hn1:n'+1≤20:=by
   have hne:n'≠20:=by
    cases hr with
    | ok _ _ h' _=>exact h'
   omega
  obtain⟨S2,h3,h4⟩:=ih S' _ (.inr h2) hn1 (fun _=>hk)
  exact⟨S2,by rw[h1,h3],by simpa using h4⟩
 | err hr=>
  intro S g0 h hn hf
  exact zdW hr h hn hf
 | later hr hk _ ih=>
  intro S g0 h hn hf
  rename_i n' _ _ _ _ _
  obtain⟨S',h1,h2⟩:=zdW hr h hn hf
  have hn1:n'+1≤20:=by
   have hne:n'≠20:=by
    cases hr with
    | ok _ _ h' _=>exact h'
   omega
  show run _ S=_
  rw[h1]
  exact ih S' _ (.inr h2) hn1 (fun _=>hk)
structure Bd (c:Nat) (S:ST):Prop where
 xs:S.xs.length≤4 * c
 os:S.os.length≤7
 each:∀ o ∈ S.os,o.terms.length≤c∧o.seqs.length≤c
 rs:S.rs.length≤20
theorem Bd.zero:Bd 0 S0:=⟨by simp[S0],by simp[S0],by simp[S0],by simp[S0]⟩
theorem Bd.mono {c c':Nat} {S:ST} (h:Bd c S) (hc:c≤c'):Bd c' S:=
 ⟨by have:=h.xs;omega,h.os,fun o ho=>by have:=h.each o ho;omega,h.rs⟩
theorem zbo {S:ST} (h:S.os≠[]):∃ pre o,S.os=pre++[o]∧S.top=o:=by
 refine⟨S.os.dropLast,S.os.getLast h,(List.dropLast_concat_getLast h).symm,?_⟩
 unfold ST.top
 conv=>lhs;rw[← List.dropLast_concat_getLast h]
 rw[List.getLastD_concat]
theorem Bd.top {c:Nat} {S:ST} (h:Bd c S) (hne:S.os≠[]):S.top.terms.length≤c∧S.top.seqs.length≤c:=by
 obtain⟨pre,o,h1,h2⟩:=zbo hne
 rw[h2];exact h.each o (by rw[h1];simp)
theorem Bd.term {c n:Nat} {T:ST} {j:Nat} {sg:Bytes} (hx:T.xs.length+1≤4 * n) (ho:T.os.length≤7) (hne:T.os≠[]) (he:∀ o ∈ T.os,o.terms.length≤c∧o.seqs.length≤c) (hr:T.rs.length≤20) (hn:c+1≤n):Bd n (T.term j sg):=by
 obtain⟨pre,o,h1,_⟩:=zbo hne
 refine⟨?_,?_,?_,by rw[zdP];exact hr⟩
 ·rw[zdS];split
  ·omega
  ·simp;omega
 ·rw[zcr _ _ _ h1];rw[h1] at ho;simpa using ho
 ·rw[zcr _ _ _ h1]
  intro x hx'
  rcases List.mem_append.1 hx' with hx' | hx'
  ·have:=he x (by rw[h1];simp[hx']);omega
  ·simp only[List.mem_singleton] at hx'
   subst hx'
   have:=he o (by rw[h1];simp)
   simp;omega
theorem Bd.lay {c:Nat} {S:ST} (h:Bd c S) (hne:S.os≠[]) (e:RE):Bd (c+1) (S.lay e):=by
 have hx:=h.xs
 exact Bd.term (c:=c) (by simp[ST.add];omega) h.os hne h.each h.rs (Nat.le_refl _)
theorem Bd.slash {c:Nat} {S:ST} (h:Bd c S) (hne:S.os≠[]):Bd (c+1) { S.slash with may:=false }:=by
 obtain⟨pre,o,h1,_⟩:=zbo hne
 obtain⟨f1,f2,f3,f4⟩:=zdf h1
 have hx:=h.xs
 have ho:=h.os
 refine⟨by simp only[f2];simp;omega,by simp only[f1];rw[h1] at ho;simpa using ho,?_,by simp only[f3];exact h.rs⟩
 simp only[f1]
 intro x hx'
 rcases List.mem_append.1 hx' with hx' | hx'
 ·have:=h.each x (by rw[h1];simp[hx']);omega
 ·simp only[List.mem_singleton] at hx'
  subst hx'
  have:=h.each o (by rw[h1];simp)
  simp;omega
theorem Bd.behind {c:Nat} {S:ST} (h:Bd c S) (hne:S.os≠[]) (b:Bytes):Bd (c+1) (S.behind b):=by
 obtain⟨pre,o,h1,h2⟩:=zbo hne
 have hx:=h.xs
 have ho:=h.os
 unfold ST.behind
 simp only[]
 split
 ·exact⟨by simp;omega,ho,fun x hx'=>by have:=h.each x hx';omega,h.rs⟩
 ·refine⟨by simp[ST.setTop,ST.add];omega,?_,?_,by simp[ST.setTop,ST.add];exact h.rs⟩
  ·simp[ST.setTop,ST.add,h1] at ho ⊢;exact ho
  ·simp only[ST.setTop,ST.add,h1,List.dropLast_concat]
   intro x hx'
   rcases List.mem_append.1 hx' with hx' | hx'
   ·have:=h.each x (by rw[h1];simp[hx']);omega
   ·simp only[List.mem_singleton] at hx'
    subst hx'
    have:=h.each o (by rw[h1];simp)
    rw[h2];simp;omega
theorem Bd.opened {c:Nat} {S:ST} (h:Bd c S) (hd:S.os.length≤6) (sg:Bytes):Bd (c+1) { S with os:=S.os++[⟨[],[],sg⟩],sign:=[],may:=false }:=by
 have hx:=h.xs
 refine⟨by simp only[];omega,by simp;omega,?_,h.rs⟩
 intro x hx'
 rcases List.mem_append.1 hx' with hx' | hx'
 ·have:=h.each x hx';omega
 ·simp only[List.mem_singleton] at hx'
  subst hx';simp
theorem Bd.closed {c:Nat} {S:ST} (h:Bd c S) (hl : 2≤S.os.length) (j:Nat) (sg:Bytes):Bd (c+1) (S.closed.term j sg):=by
 have hne:S.os≠[]:=by intro e;rw[e] at hl;simp at hl
 obtain⟨pre,o,h1,_⟩:=zbo hne
 obtain⟨f1,f2,f3,f4⟩:=zcf h1
 have hx:=h.xs
 have ho:=h.os
 rw[h1] at hl ho
 simp at hl ho
 refine Bd.term (c:=c) (by rw[f2];simp;omega) (by rw[f1];omega) (by rw[f1];intro e;rw[e] at hl;simp at hl) ?_ (by rw[f3];exact h.rs) (Nat.le_refl _)
 rw[f1]
 intro x hx'
 exact h.each x (by rw[h1];simp[hx'])
theorem Bd.begin {c:Nat} {S:ST} (h:Bd c S) (hl:S.os.length≤1) (hr:S.rs.length<20) (b:Bytes) (hor:S.rs≠[]→S.os≠[]):Bd (c+2) (S.begin b):=by
 have hx:=h.xs
 by_cases hrs:S.rs=[]
 ·have e:S.rule=S:=by unfold ST.rule;rw[if_pos hrs]
  unfold ST.begin;rw[e]
  refine⟨by simp only[];omega,by simp;omega,?_,by simp;omega⟩
  intro x hx'
  rcases List.mem_append.1 hx' with hx' | hx'
  ·have:=h.each x hx';omega
  ·simp only[List.mem_singleton] at hx'
   subst hx';simp
 ·obtain⟨pre,o,h1,_⟩:=zbo (hor hrs)
  obtain⟨f1,f2,f3,f4⟩:=zcf h1
  have e1:S.rule.xs=S.closed.xs:=by unfold ST.rule;rw[if_neg hrs]
  have e2:S.rule.os=S.closed.os:=by unfold ST.rule;rw[if_neg hrs]
  have e3:S.rule.rs.length=S.rs.length:=by
   unfold ST.rule;rw[if_neg hrs];simp
   have : 0<S.rs.length:=List.length_pos_iff.2 hrs
   omega
  have hpre:pre=[]:=by
   rw[h1] at hl;simp at hl;exact hl
  unfold ST.begin
  refine⟨by simp only[e1,f2];simp;omega,by simp only[e2,f1,hpre];simp,?_,by simp only[List.length_append,e3];simp;omega⟩
  simp only[e2,f1,hpre]
  intro x hx'
  simp at hx'
  subst hx';simp
def zcH (b:Bytes):Prop:=b=[]∨b=[38]∨b=[33]
structure StOk (S:ST):Prop where
 sg:zcH S.sign
 osg:∀ o ∈ S.os,zcH o.sign
 may:S.may=true→∃ tl k x,S.top.terms=tl++[k]∧S.xs[k]? = some x∧((x.kind=10∨x.kind=11)→x.parts≠[])
 ne:S.rs≠[]→S.os≠[]
theorem StOk.zero:StOk S0:=⟨.inl rfl,by simp[S0],by simp[S0],by simp[S0]⟩
theorem StOk.term {T:ST} {j:Nat} {sg:Bytes} {x:RE} (hne:T.os≠[]) (hs:zcH T.sign) (ho:∀ o ∈ T.os,zcH o.sign) (hx:T.xs[j]? = some x) (hk:(x.kind=10∨x.kind=11)→x.parts≠[]):StOk (T.term j sg):=by
 obtain⟨pre,o,h1,_⟩:=zbo hne
 have hos:=zcr T j sg h1
 have htop:(T.term j sg).top = { o with terms:=o.terms++[if sg=[] then j else T.xs.length] }:=by unfold ST.top;rw[hos,List.getLastD_concat]
 refine⟨by rw[zec];exact hs,?_,?_,by rw[hos];simp⟩
 ·rw[hos]
  intro y hy
  rcases List.mem_append.1 hy with hy | hy
  ·exact ho y (by rw[h1];simp[hy])
  ·simp only[List.mem_singleton] at hy
   subst hy
   exact ho o (by rw[h1];simp)
 ·intro _
  rw[htop,zdS]
  by_cases hsg:sg=[]
  ·simp only[hsg,if_true]
   exact⟨o.terms,j,x,rfl,hx,hk⟩
  ·simp only[hsg,if_false]
   exact⟨o.terms,T.xs.length,wrapE (zae sg) j,rfl,zby,by simp[wrapE]⟩
theorem StOk.lay {S:ST} (h:StOk S) (hne:S.os≠[]) {e:RE} (he:e.kind≠10∧e.kind≠11):StOk (S.lay e):=
 StOk.term (x:=e) hne (.inl rfl) h.osg (by simp[ST.add]) (by rintro (h' | h');exact absurd h' he.1;exact absurd h' he.2)
theorem zdy (t:Tok):(zav t).kind≠10∧(zav t).kind≠11:=by
 unfold zav;split<;>simp
theorem StOk.begin {S:ST} (h:StOk S) (b:Bytes) (hs:S.sign=[]):StOk (S.begin b):=by
 have hr:zcH S.rule.sign∧∀ o ∈ S.rule.os,zcH o.sign:=by
  by_cases hrs:S.rs=[]
  ·have e:S.rule=S:=by unfold ST.rule;rw[if_pos hrs]
   rw[e];exact⟨h.sg,h.osg⟩
  ·obtain⟨pre,o,h1,_⟩:=zbo (h.ne hrs)
   obtain⟨f1,f2,f3,f4⟩:=zcf h1
   have e:S.rule.sign=S.closed.sign∧S.rule.os=S.closed.os:=by unfold ST.rule;rw[if_neg hrs];exact⟨rfl,rfl⟩
   rw[e.1,e.2,f1,f4]
   exact⟨h.sg,fun y hy=>h.osg y (by rw[h1];simp[hy])⟩
 refine⟨hr.1,?_,by simp[ST.begin],by simp[ST.begin]⟩
 intro y hy
 rcases List.mem_append.1 hy with hy | hy
 ·exact hr.2 y hy
 ·simp only[List.mem_singleton] at hy
  subst hy;exact .inl rfl
theorem zet {S:ST} (h:StOk S) (hne:S.os≠[]) (b:Bytes):StOk (S.behind b)∧(S.behind b).os≠[]∧(S.behind b).rs=S.rs:=by
 obtain⟨pre,o,h1,h2⟩:=zbo hne
 unfold ST.behind
 simp only[]
 split
 ·exact⟨⟨h.sg,h.osg,by simp,fun _=>hne⟩,hne,rfl⟩
 ·refine⟨⟨h.sg,?_,by simp,by simp[ST.setTop]⟩,by simp[ST.setTop],by simp[ST.setTop,ST.add]⟩
  simp only[ST.setTop,ST.add,h1,List.dropLast_concat]
  intro y hy
  rcases List.mem_append.1 hy with hy | hy
  ·exact h.osg y (by rw[h1];simp[hy])
  ·simp only[List.mem_singleton] at hy
   subst hy
   rw[h2]
   exact h.osg o (by rw[h1];simp)
theorem signs_ok {S S':ST} {c:UInt8} {n:Nat} (h:StOk S) (hb:Bd n S) (hne:S.os≠[]) (hrs:S.rs≠[]) (hc:signB c=true) (hs:S.signs c = .ok S'):StOk S'∧Bd (n+1) S'∧S'.os≠[]∧S'.rs=S.rs:=by
 obtain⟨pre,o,h1,h2⟩:=zbo hne
 rcases sign9 hc with rfl | rfl | rfl | rfl | rfl | rfl | rfl | rfl | rfl
 ·simp only[ST.signs] at hs
  by_cases hg:S.sign=[]
  ·simp[hg] at hs
   subst hs
   obtain⟨f1,f2,f3,f4⟩:=zdf h1
   refine⟨⟨by simp only[f4];exact h.sg,?_,by simp,by simp only[f1];simp⟩,hb.slash hne,by simp only[f1];simp,by simp only[f3]⟩
   simp only[f1]
   intro y hy
   rcases List.mem_append.1 hy with hy | hy
   ·exact h.osg y (by rw[h1];simp[hy])
   ·simp only[List.mem_singleton] at hy
    subst hy
    exact h.osg o (by rw[h1];simp)
  ·simp[hg] at hs
 ·simp only[ST.signs] at hs
  by_cases hg:S.sign=[]
  ·simp[hg] at hs
   subst hs
   exact⟨⟨.inr (.inl rfl),h.osg,by simp,fun _=>hne⟩,⟨by have:=hb.xs;simp only[];omega,hb.os,fun x hx=>by have:=hb.each x hx;omega,hb.rs⟩,hne,rfl⟩
  ·simp[hg] at hs
 ·simp only[ST.signs] at hs
  by_cases hg:S.sign=[]
  ·simp[hg] at hs
   subst hs
   exact⟨⟨.inr (.inr rfl),h.osg,by simp,fun _=>hne⟩,⟨by have:=hb.xs;simp only[];omega,hb.os,fun x hx=>by have:=hb.each x hx;omega,hb.rs⟩,hne,rfl⟩
  ·simp[hg] at hs
 ·by_cases hm:S.may=true
  ·have e:S'=S.behind [63]:=by simp[ST.signs,hm] at hs;exact hs.symm
   subst e
   obtain⟨g1,g2,g3⟩:=zet h hne [63]
   exact⟨g1,hb.behind hne [63],g2,g3⟩
  ·simp[ST.signs,hm] at hs
 ·by_cases hm:S.may=true
  ·have e:S'=S.behind [42]:=by simp[ST.signs,hm] at hs;exact hs.symm
   subst e
   obtain⟨g1,g2,g3⟩:=zet h hne [42]
   exact⟨g1,hb.behind hne [42],g2,g3⟩
  ·simp[ST.signs,hm] at hs
 ·by_cases hm:S.may=true
  ·have e:S'=S.behind [43]:=by simp[ST.signs,hm] at hs;exact hs.symm
   subst e
   obtain⟨g1,g2,g3⟩:=zet h hne [43]
   exact⟨g1,hb.behind hne [43],g2,g3⟩
  ·simp[ST.signs,hm] at hs
 ·by_cases hd : 6<S.os.length
  ·simp[ST.signs,hd] at hs
  ·have e:S' = { S with os:=S.os++[⟨[],[],S.sign⟩],sign:=[],may:=false }:=by simp[ST.signs,hd] at hs;exact hs.symm
   subst e
   refine⟨⟨.inl rfl,?_,by simp,by simp⟩,hb.opened (by omega) _,by simp,rfl⟩
   intro y hy
   rcases List.mem_append.1 hy with hy | hy
   ·exact h.osg y hy
   ·simp only[List.mem_singleton] at hy
    subst hy;exact h.sg
 ·by_cases hd:S.sign=[]∧2≤S.os.length
  ·have e:S'=S.closed.term (S.xs.length+1) S.top.sign:=by simp[ST.signs,hd] at hs;exact hs.symm
   subst e
   obtain⟨f1,f2,f3,f4⟩:=zcf h1
   have hp:pre≠[]:=by
    intro e
    have:=hd.2
    rw[h1,e] at this;simp at this
   refine⟨StOk.term (x:=⟨6,[],[],0,o.seqs++[S.xs.length]⟩) (by rw[f1];exact hp) (by rw[f4];exact h.sg) (by rw[f1];exact fun y hy=>h.osg y (by rw[h1];simp[hy])) (by rw[f2];simp) (by simp),hb.closed hd.2 _ _,?_,by rw[zdP,f3]⟩
   obtain⟨pre',o',h1',_⟩:=zbo (S:=S.closed) (by rw[f1];exact hp)
   rw[zcr _ _ _ h1'];simp
  ·simp[ST.signs,hd] at hs
 ·have e:S'=S.lay ⟨3,[],[],0,[]⟩:=by simp[ST.signs] at hs;exact hs.symm
  subst e
  refine⟨h.lay hne (by simp),hb.lay hne _,?_,?_⟩
  ·unfold ST.lay
   rw[zcr (({ S with sign:=[] }:ST).add ⟨3,[],[],0,[]⟩) _ _ (pre:=pre) (o:=o) h1];simp
  ·unfold ST.lay;rw[zdP];rfl
theorem signs_err {S:ST} {c:UInt8} {er:Nat} (h:S.signs c = .error er):er=2∨er=3:=by
 unfold ST.signs at h
 repeat' split at h
 all_goals first | (cases h;simp;done) | cases h
end Thk
namespace Go.Proofs.YtiganlkabilblaaGreatDoor
open Go.RowKit
attribute [local go_sem ↓] Go.wp_at_zero Go.wp_at_succ
def SgAll (w:World) (B rb:Nat) (S:Thk.ST) (c:UInt8) (e':Ending) (w':World):Prop:=
 match S.signs c with
 | .error er=>RdErr w B er e' w'
 | .ok S'=>zb9 w B rb S' (.int .i64 0) e' w'
theorem okA_of {b:Thk.Bytes} (h:Thk.zcH b) (hne:b≠[]):okA b:=by
 rcases h with h | h | h
 ·exact absurd h hne
 ·exact .inl h
 ·exact .inr h
theorem okS_of {b:Thk.Bytes} (h:Thk.zcH b):b=[]∨okA b:=by
 rcases h with h | h | h
 ·exact .inl h
 ·exact .inr (.inl h)
 ·exact .inr (.inr h)
theorem rsigns_any (w:World) (B rb:Nat) (M:MV) (lab:Nat→Nat) (h:Mem w B rb M lab (· = 0)) (hok:Thk.StOk M.st) (n:Nat) (hb:Thk.Bd n M.st) (hn:n≤2100) (hne:M.os≠[]) (c:UInt8) (hc:Thk.signB c=true) :
  Calls Tryz.prog 100 #[.pointer (some ⟨rb,0,none⟩),.string ⟨#[c]⟩] w fun e' w'=>SgAll w B rb M.st c e' w':=by
 obtain⟨mr,m,ho⟩:∃ mr m,M.os=mr++[m]:=⟨M.os.dropLast,M.os.getLast hne,(List.dropLast_concat_getLast hne).symm⟩
 have hxl:M.xs.length≤8400:=by have:=hb.xs;simp[MV.st] at this;omega
 have hol:M.os.length≤7:=by have:=hb.os;simpa [MV.st] using this
 have hmr:mr.length≤6:=by rw[ho] at hol;simp at hol;exact hol
 have hmm:m.1.terms.length≤2100∧m.1.seqs.length≤2100:=by
  have:=hb.each m.1 (by simp[MV.st,ho]);omega
 have htop:M.st.top=m.1:=by simp[MV.st,Thk.ST.top,ho,List.getLastD_concat]
 have hsgn:M.st.sign=M.sign:=rfl
 have hmay:M.st.may=M.may:=rfl
 have hosl:M.st.os.length=M.os.length:=by simp[MV.st]
 have hxsl:M.st.xs.length=M.xs.length:=by simp[MV.st]
 have hs:=hok.sg
 rw[hsgn] at hs
 unfold SgAll
 rcases Thk.sign9 hc with rfl | rfl | rfl | rfl | rfl | rfl | rfl | rfl | rfl
 ·by_cases hg:M.sign=[]
  ·simp only[Thk.ST.signs,hsgn,hg,if_true]
   exact rsigns_slash w B rb M lab h hg mr m ho (by omega) (by omega) (by omega)
  ·simp only[Thk.ST.signs,hsgn,hg,if_true,if_false]
   exact zcD w B rb M lab h (okA_of hs hg) 47 (.inl rfl)
 ·by_cases hg:M.sign=[]
  ·simp[Thk.ST.signs,hsgn,hg]
   exact zeo w B rb M lab h hg 38 (.inl rfl)
  ·simp[Thk.ST.signs,hsgn,hg]
   exact zcD w B rb M lab h (okA_of hs hg) 38 (.inr (.inl rfl))
 ·by_cases hg:M.sign=[]
  ·simp[Thk.ST.signs,hsgn,hg]
   exact zeo w B rb M lab h hg 33 (.inr rfl)
  ·simp[Thk.ST.signs,hsgn,hg]
   exact zcD w B rb M lab h (okA_of hs hg) 33 (.inr (.inr (.inl rfl)))
 iterate 3
  by_cases hm:M.may=true
  ·simp[Thk.ST.signs,hmay,hm]
   obtain⟨tl,k,x,h1,h2,h3⟩:=hok.may hm
   rw[htop] at h1
   have hk:k<M.xs.length:=by rw[← hxsl];exact (List.getElem?_eq_some_iff.1 h2).1
   have hx:M.xs[k].1=x:=by
    have:M.st.xs[k]? = some M.xs[k].1:=by simp[MV.st,hk]
    rw[this] at h2;exact Option.some.inj h2
   have htl:tl.length≤2100:=by have:=hmm.1;rw[h1] at this;simp at this;omega
   exact rsigns_behind w B rb M lab h hm _ (by simp) mr m ho tl k h1 hk (by rw[hx];exact h3) (by omega) (by omega) (by omega)
  ·simp[Thk.ST.signs,hmay,hm]
   exact rsigns_errB w B rb M lab h (by simpa using hm) _ (by simp)
 ·by_cases hd : 6<M.os.length
  ·simp[Thk.ST.signs,hosl,hd]
   exact rsigns_deep w B rb M lab h hd
  ·simp[Thk.ST.signs,hosl,hd]
   exact rsigns_open w B rb M lab h (by omega)
 ·by_cases hg:M.sign=[]
  ·by_cases hd : 2≤M.os.length
   ·simp[Thk.ST.signs,hsgn,hosl,hg,hd,htop,hxsl]
    have hmr0:mr≠[]:=by intro e;rw[ho,e] at hd;simp at hd
    obtain⟨mr',m0,ho'⟩:∃ mr' m0,mr=mr'++[m0]:=⟨mr.dropLast,mr.getLast hmr0,(List.dropLast_concat_getLast hmr0).symm⟩
    have hm0:m0.1.terms.length≤2100:=by
     have:=hb.each m0.1 (by simp[MV.st,ho,ho']);omega
    have hm':mr'.length≤6:=by rw[ho'] at hmr;simp at hmr;omega
    exact rsigns_close w B rb M lab h hg mr' m0 m (by rw[ho,ho']) (okS_of (hok.osg m.1 (by simp[MV.st,ho]))) (by omega) (by omega) (by omega) (by omega)
   ·simp[Thk.ST.signs,hsgn,hosl,hg,hd]
    exact rsigns_errC w B rb M lab h hg (by omega)
  ·simp[Thk.ST.signs,hsgn,hg]
   exact zcD w B rb M lab h (okA_of hs hg) 41 (.inr (.inr (.inr rfl)))
 ·have e:M.st.signs 46 = .ok (M.st.lay ⟨3,[],[],0,[]⟩):=by simp[Thk.ST.signs]
  rw[e]
  have:=rsigns_dot w B rb M lab h mr m ho (okS_of hs) (by omega) (by omega) (by omega)
  simpa [Thk.ST.lay,hsgn,hxsl] using this
abbrev zGram:Value:=.agg #[.slice none 0 0,.slice none 0 0]
abbrev zbz:Obj:=.cells #[.slice none 0 0,.slice none 0 0] 85
theorem zcl (w:World) (rb:Nat) (k p e k' p' e':Nat) (s s':ByteArray) (a a':Option Addr) (n c n' c':Nat) :
  Calls Tryz.prog 99 #[.pointer (some ⟨rb,0,none⟩),.agg #[.int .i64 k,.int .i64 p,.int .i64 e,.string s,.slice a n c],.agg #[.int .i64 k',.int .i64 p',.int .i64 e',.string s',.slice a' n' c']] w
   fun en w'=>en = .returned (.tuple #[zGram,.int .i64 2,.int .i64 (if k=1 then (p':Int) else p)])∧Below w.heap.size w w':=by
 by_cases hk:k=1
 ·subst hk
  go_enter Tryz.func99,Tryz.ntmps99
  go_wp2_with fail
  go_region
  all_goals go_wp2_with fail
  all_goals refine bodyPost_ret (v:=.tuple #[zGram,.int .i64 2,.int .i64 p']) (by simp[results,Tryz.results99,go_sem];done) rfl ⟨by simp,?_⟩
  all_goals exact ((((za1 w _).alloc (by simp) _).alloc (by simp;omega) _)).drew
 ·have hk':¬ (k:Int)=1:=by omega
  go_enter Tryz.func99,Tryz.ntmps99
  go_wp2_with fail
  go_region
  all_goals go_wp2_with fail
  all_goals refine bodyPost_ret (v:=.tuple #[zGram,.int .i64 2,.int .i64 p]) (by simp[results,Tryz.results99,go_sem];done) rfl ⟨by simp[hk],?_⟩
  all_goals exact ((((za1 w _).alloc (by simp) _).alloc (by simp;omega) _)).drew
end Go.Proofs.YtiganlkabilblaaGreatDoor
