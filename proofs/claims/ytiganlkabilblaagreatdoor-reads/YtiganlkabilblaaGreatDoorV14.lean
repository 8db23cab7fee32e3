import Derived.Test.YtiganlkabilblaaGreatDoorV12
import Derived.Test.YtiganlkabilblaaGreatDoorV13
import Derived.Test.YtiganlkabilblaaGreatDoorV04
set_option linter.all false
set_option maxHeartbeats 64000000
set_option maxRecDepth 100000
namespace Go.Proofs.YtiganlkabilblaaGreatDoor
open Go.RowKit
attribute [local go_sem ↓] Go.wp_at_zero Go.wp_at_succ
theorem KL {p:Prop} (h:p):Hid p:=h
theorem zin (rr:List (Thk.z7 × Nat)) (r:Thk.z7 × Nat) (u:Nat):((rr++[r]).flatMap ruC).set (rr.length * 2+1) (.int .i64 u)=(rr++[(r.1,u)]).flatMap ruC:=by
 rw[List.flatMap_append,List.set_append_right _ _ (by rw[UX];omega),UX,show rr.length * 2+1 - rr.length * 2=1 from by omega,List.flatMap_append]
 simp[ruC]
theorem Mem.setBody {w:World} {B rb:Nat} {M:MV} {lab:Nat→Nat} (h:Mem w B rb M lab (· = 0)) {rr:List (Thk.z7 × Nat)} {r:Thk.z7 × Nat} (hr:M.rs=rr++[r]) {rg rc:Nat} (hv:M.vr = .slice (some ⟨rg,0,none⟩) (rr.length+1) rc) (n:Nat) :
  Mem (w.setCell ⟨rg,rr.length * 2+1,none⟩ (.int .i64 n)) B rb { M with rs:=rr++[(r.1,n)] } lab (· = 0)∧KT B w (w.setCell ⟨rg,rr.length * 2+1,none⟩ (.int .i64 n)):=by
 have c:=Chg.set rg (rr.length * 2+1) (.int .i64 n) w
 have hru:=h.ru
 rw[hv,hr] at hru
 obtain⟨cs,hrb⟩:=Qw hru (b:=rg) rfl
 have hnr:rb≠rg:=by
  intro e1;subst e1
  have:=zn hru h.blk (by decide)
  simp[Value.ownBlock] at this
 have hru':w.ownsRow B 90 2 (.slice (some ⟨rg,0,none⟩) (rr.length+1) rc) (rr.length+1) ((rr++[r]).flatMap ruC):=by simpa using hru
 have hst:=(hru'.stored (rr.length * 2+1) (.int .i64 n)).1
 rw[zin] at hst
 refine⟨⟨h.ge,by rw[c.same rb h.lt hnr];exact h.blk,zq c h.ex (zn h.ex hrb (by decide)),?_,zq c h.op (zn h.op hrb (by decide)),fun p hp=>zq c (h.items p hp) (zn (h.items p hp) hrb (by decide)),fun p hp=>⟨zq c (h.parts p hp).1 (zn (h.parts p hp).1 hrb (by decide)),(h.parts p hp).2⟩,?_⟩,KT.chg c (by have:=h.lt;have:=h.ge;omega) (hru.lt rg rfl).1 (fun cs' t fr hb=>by rw[hrb] at hb;simp at hb;rw[← hb.2.1];decide)⟩
 ·simp only[hv,List.length_append,List.length_singleton];exact hst
 ·intro j hj
  obtain⟨h1,h2,h3,h4⟩:=h.opens j hj
  exact⟨zq c h1 (zn h1 hrb (by decide)),h2,zq c h3 (zn h3 hrb (by decide)),h4⟩
theorem zcq (w:World) (B rb:Nat) (M:MV) (lab:Nat→Nat) (h:Mem w B rb M lab (· = 0)) (rr:List (Thk.z7 × Nat)) (r:Thk.z7 × Nat) (hrs:M.rs=rr++[r]) (mr:List (Thk.OP × Value × Value)) (m:Thk.OP × Value × Value) (ho:M.os=mr++[m]) (hb0:M.xs.length≤90000) (hb1:m.1.seqs.length≤90000) (hb2:mr.length≤90000) (hb3:rr.length≤90000) :
  Calls Tryz.prog 98 #[.pointer (some ⟨rb,0,none⟩)] w fun e' w'=>QS w B rb { M.st.closed with rs:=rr++[(r.1,M.xs.length+1)] } (.tuple #[]) e' w':=by
 have hcl:=zcb w B rb M lab h mr m ho hb0 hb1 hb2
 have c1:w.cell? ⟨rb,1,none⟩=some M.vr:=z8 h.blk 1
 have hru:=h.ru
 rw[hrs] at hru
 obtain⟨rg,rc,hv,_,_⟩:=hru.form (by simp)
 rw[hv] at c1
 have hlr:(rr++[r]).length=rr.length+1:=by simp
 rw[hlr] at c1
 have hcr:M.st.closed.rs=rr++[r]:=by
  show M.st.rs=_
  exact hrs
 have HCR:=KL hcr
 have hp0:(0:Int)<(rr.length:Int)+1:=by omega
 clear h hrs ho hru hv hlr hcr
 go_enter Tryz.func98,Tryz.ntmps98
 go_wp2_with fail
 refine hcl.mono ?_
 rintro e1 w1 ⟨rfl,M1,lab1,hM1,hK1,hS1⟩
 have hr1:M1.rs=rr++[r]:=by
  have e1:M1.st.rs=M1.rs:=rfl
  rw[← e1,hS1];exact HCR.out
 have hru1:=hM1.ru
 rw[hr1] at hru1
 obtain⟨rg1,rc1,hv1,hgB,hgl⟩:=hru1.form (by simp)
 have hlr:(rr++[r]).length=rr.length+1:=by simp
 rw[hlr] at hv1
 have d1:w1.cell? ⟨rb,1,none⟩=some M1.vr:=z8 hM1.blk 1
 rw[hv1] at d1
 have hru2:=hru1
 rw[hv1] at hru2
 simp only[hlr] at hru2
 have d2:w1.cell? ⟨rg1,rr.length * 2+1,none⟩=some (.int .i64 r.2):=by
  rw[hru2.cellAt _ (by omega),List.flatMap_append,List.getElem?_append_right (by rw[UX];omega),UX,show rr.length * 2+1 - rr.length * 2=1 from by omega]
  simp[ruC]
 have d3:w1.frozen? ⟨rg1,rr.length * 2+1,none⟩=false:=hru2.frozenAt _
 have hL:(rr.length:Int)<(rr.length:Int)+1:=by omega
 have HM1:=KL hM1
 have HR1:=KL hr1
 have HV1:=KL hv1
 have HK1:=KL hK1
 have HS1:=KL hS1
 have hrl:=hM1.lt
 clear hcl hM1 hr1 hru1 hv1 hlr hru2 hK1 hS1 c1
 go_wp2_with fail
 go_region
 go_wp2_with fail
 obtain⟨hM2,hK2⟩:=HM1.out.setBody HR1.out HV1.out (M.xs.length+1)
 have hM2:=hM2.drew
 have hK2:=hK2.drew
 go_end0
 refine⟨rfl,_,_,hM2,HK1.out.trans hK2,?_⟩
 have e1:=HS1.out
 rw[← e1]
 rfl
theorem zi8 (w:World) (B rb:Nat) (M:MV) (lab:Nat→Nat) (h:Mem w B rb M lab (· = 0)) (hrs:M.rs=[]) :
  Calls Tryz.prog 98 #[.pointer (some ⟨rb,0,none⟩)] w fun e' w'=>e' = .returned (.tuple #[])∧w'=w:=by
 have c1:w.cell? ⟨rb,1,none⟩=some M.vr:=z8 h.blk 1
 have hru:=h.ru
 rw[hrs] at hru
 obtain⟨ra,rc,hv⟩:=zl hru
 rw[hv] at c1
 simp only[List.length_nil] at c1
 clear h hrs hru hv
 go_enter Tryz.func98,Tryz.ntmps98
 go_wp2_with fail
 go_end0
 exact⟨rfl,rfl⟩
theorem Tryz.infoOpen:(Tryz.prog.info? 209).map (fun i=>(i.zero,i.size,i.bytes))=some (some (.agg #[.slice none 0 0,.slice none 0 0,.string ⟨#[]⟩]),3,64):=by kernel_rfl
def Va (w:World) (B:Nat) (er:Nat) (e:Ending) (w':World):Prop:=e = .returned (.int .i64 er)∧KT B w w'
def okA (b:Thk.z7):Prop:=b=[38]∨b=[33]
theorem Mem.c3 {w:World} {B rb:Nat} {M:MV} {lab:Nat→Nat} {P:Nat→Prop} (h:Mem w B rb M lab P):w.cell? ⟨rb,3,none⟩=some (.string ⟨M.sign.toArray⟩)∧w.cell? ⟨rb,4,none⟩=some (.bool M.may)∧w.cell? ⟨rb,2,none⟩=some M.vo∧(∀ o,w.frozen? ⟨rb,o,none⟩=false):=⟨z8 h.blk 3,z8 h.blk 4,z8 h.blk 2,zi h.blk⟩
theorem UW (w:World) (B rb:Nat) (M:MV) (lab:Nat→Nat) (h:Mem w B rb M lab (· = 0)) (hs:okA M.sign) (c:UInt8) (hc:c=47∨c=38∨c=33∨c=41) :
  Calls Tryz.prog 100 #[.pointer (some ⟨rb,0,none⟩),.string ⟨#[c]⟩] w fun e' w'=>Va w B 2 e' w':=by
 obtain⟨c3,c4,c2,fz⟩:=h.c3
 clear h
 rcases hs with hs | hs<;>rw[hs] at c3<;>rcases hc with rfl | rfl | rfl | rfl
 all_goals
  go_enter Tryz.func100,Tryz.ntmps100
  go_wp2_with fail
  go_ret
  exact⟨rfl,KT.refl _ _⟩
theorem zcr (w:World) (B rb:Nat) (M:MV) (lab:Nat→Nat) (h:Mem w B rb M lab (· = 0)) (hs:M.sign=[]) (c:UInt8) (hc:c=38∨c=33) :
  Calls Tryz.prog 100 #[.pointer (some ⟨rb,0,none⟩),.string ⟨#[c]⟩] w fun e' w'=>QS w B rb { M.st with sign:=[c],may:=false } (.int .i64 0) e' w':=by
 obtain⟨c3,c4,c2,fz⟩:=h.c3
 rw[hs] at c3
 have H:=z6 h
 clear h
 rcases hc with rfl | rfl
 all_goals
  go_enter Tryz.func100,Tryz.ntmps100
  go_wp2_with fail
  go_ret
 ·obtain⟨h1,k1⟩:=H.out.setSign [38]
  obtain⟨h2,k2⟩:=h1.setMay false
  exact⟨rfl,_,_,h2,k1.trans k2,rfl⟩
 ·obtain⟨h1,k1⟩:=H.out.setSign [33]
  obtain⟨h2,k2⟩:=h1.setMay false
  exact⟨rfl,_,_,h2,k1.trans k2,rfl⟩
theorem zii (w:World) (B rb:Nat) (M:MV) (lab:Nat→Nat) (h:Mem w B rb M lab (· = 0)) (hs:M.sign=[]) (mr:List (Thk.OP × Value × Value)) (m:Thk.OP × Value × Value) (ho:M.os=mr++[m]) (hb0:M.xs.length≤90000) (hb1:m.1.seqs.length≤90000) (hb2:mr.length≤90000) :
  Calls Tryz.prog 100 #[.pointer (some ⟨rb,0,none⟩),.string ⟨#[47]⟩] w fun e' w'=>QS w B rb { M.st.slash with may:=false } (.int .i64 0) e' w':=by
 obtain⟨c3,c4,c2,fz⟩:=h.c3
 rw[hs] at c3
 have hsl:=zcs w B rb M lab h mr m ho (by omega) (by omega) (by omega)
 clear h
 go_enter Tryz.func100,Tryz.ntmps100
 go_wp2_with fail
 refine hsl.mono ?_
 rintro e1 w1 ⟨rfl,M1,lab1,hM1,hK1,hS1⟩
 obtain⟨d3,d4,d2,dz⟩:=hM1.c3
 have HM1:=z6 hM1
 have HK1:=z6 hK1
 have HS1:=z6 hS1
 clear hsl hM1 hK1 hS1
 go_wp2_with fail
 obtain⟨h2,k2⟩:=HM1.out.setMay false
 go_ret
 refine⟨rfl,_,_,h2,HK1.out.trans k2,?_⟩
 rw[← HS1.out]
 rfl
theorem zif (w:World) (B rb:Nat) (M:MV) (lab:Nat→Nat) (h:Mem w B rb M lab (· = 0)) (hm:M.may=false) (c:UInt8) (hc:c=63∨c=42∨c=43) :
  Calls Tryz.prog 100 #[.pointer (some ⟨rb,0,none⟩),.string ⟨#[c]⟩] w fun e' w'=>Va w B 2 e' w':=by
 obtain⟨c3,c4,c2,fz⟩:=h.c3
 rw[hm] at c4
 clear h
 rcases hc with rfl | rfl | rfl
 all_goals
  go_enter Tryz.func100,Tryz.ntmps100
  go_wp2_with fail
  go_ret
  exact⟨rfl,KT.refl _ _⟩
theorem zib (w:World) (B rb:Nat) (M:MV) (lab:Nat→Nat) (h:Mem w B rb M lab (· = 0)) (hm:M.may=true) (c:UInt8) (hc:c=63∨c=42∨c=43)
  (mr:List (Thk.OP × Value × Value)) (m:Thk.OP × Value × Value) (ho:M.os=mr++[m]) (tl:List Nat) (k:Nat) (ht:m.1.terms=tl++[k]) (hk:k<M.xs.length) (hkind:(M.xs[k].1.kind=10∨M.xs[k].1.kind=11)→M.xs[k].1.parts≠[])
  (hb0:M.xs.length≤90000) (hb1:tl.length≤90000) (hb2:mr.length≤90000) :
  Calls Tryz.prog 100 #[.pointer (some ⟨rb,0,none⟩),.string ⟨#[c]⟩] w fun e' w'=>QS w B rb (M.st.behind [c]) (.int .i64 0) e' w':=by
 obtain⟨c3,c4,c2,fz⟩:=h.c3
 rw[hm] at c4
 have hsg:YW [c]:=by rcases hc with rfl | rfl | rfl<;>simp[YW]
 have hbe:Calls Tryz.prog 142 #[.pointer (some ⟨rb,0,none⟩),.string ⟨[c].toArray⟩] w fun e' w'=>QS w B rb (M.st.behind [c]) (.tuple #[]) e' w':=by
  by_cases hkk:M.xs[k].1.kind=10∨M.xs[k].1.kind=11
  ·exact zho w B rb M lab h mr m ho tl k ht hk ⟨hkk,hkind hkk⟩ [c] hsg hb0 hb1 hb2
  ·exact zhp w B rb M lab h mr m ho tl k ht hk ⟨fun e=>hkk (.inl e),fun e=>hkk (.inr e)⟩ [c] hsg hb0 hb1 hb2
 clear h hkind hsg
 rcases hc with rfl | rfl | rfl
 all_goals
  go_enter Tryz.func100,Tryz.ntmps100
  go_wp2_with fail
  refine hbe.mono ?_
  rintro e1 w1 ⟨rfl,M1,lab1,hM1,hK1,hS1⟩
  have HE:Hid (∃ M' lab',Mem w1 B rb M' lab' (· = 0)∧KT B w w1∧M'.st=_):=⟨M1,lab1,hM1,hK1,hS1⟩
  clear hbe hM1 hK1 hS1
  go_wp2_with fail
  go_ret
  exact⟨rfl,HE.out⟩
theorem zid (w:World) (B rb:Nat) (M:MV) (lab:Nat→Nat) (h:Mem w B rb M lab (· = 0)) (hd : 6<M.os.length) :
  Calls Tryz.prog 100 #[.pointer (some ⟨rb,0,none⟩),.string ⟨#[40]⟩] w fun e' w'=>Va w B 3 e' w':=by
 obtain⟨c3,c4,c2,fz⟩:=h.c3
 obtain⟨oa,oc,hv⟩:=zl h.op
 rw[hv] at c2
 have hd':(6:Int)<(M.os.length:Int):=by omega
 clear h hv
 go_enter Tryz.func100,Tryz.ntmps100
 go_wp2_with fail
 go_ret
 exact⟨rfl,KT.refl _ _⟩
theorem zig (w:World) (B rb:Nat) (M:MV) (lab:Nat→Nat) (h:Mem w B rb M lab (· = 0)) (hs:M.sign=[]) (hd:M.os.length<2) :
  Calls Tryz.prog 100 #[.pointer (some ⟨rb,0,none⟩),.string ⟨#[41]⟩] w fun e' w'=>Va w B 2 e' w':=by
 obtain⟨c3,c4,c2,fz⟩:=h.c3
 rw[hs] at c3
 obtain⟨oa,oc,hv⟩:=zl h.op
 rw[hv] at c2
 have hd':(M.os.length:Int)<2:=by omega
 clear h hv
 go_enter Tryz.func100,Tryz.ntmps100
 go_wp2_with fail
 go_ret
 exact⟨rfl,KT.refl _ _⟩
theorem VP (w:World) (B rb:Nat) (M:MV) (lab:Nat→Nat) (h:Mem w B rb M lab (· = 0)) (mr:List (Thk.OP × Value × Value)) (m:Thk.OP × Value × Value) (ho:M.os=mr++[m]) (e:Nat) (sg:Thk.z7) (hsg:sg=[]∨okA sg) (hb0:M.xs.length≤100000) (hb1:m.1.terms.length≤100000) (hb2:mr.length≤100000) :
  Calls Tryz.prog 101 #[.pointer (some ⟨rb,0,none⟩),.int .i64 e,.string ⟨sg.toArray⟩] w fun e' w'=>QS w B rb (M.st.term e sg) (.tuple #[]) e' w':=by
 have e3:M.st.xs.length=M.xs.length:=by simp[MV.st]
 unfold Thk.ST.term
 rcases hsg with rfl | hsg
 ·rw[if_pos rfl]
  exact zij w B rb M lab h mr m ho e hb1 hb2
 ·have hok:YW sg:=by rcases hsg with rfl | rfl<;>simp[YW]
  rw[if_neg (by rcases hsg with rfl | rfl<;>simp),e3]
  exact zik w B rb M lab h mr m ho e sg hok hb0 hb1 hb2
theorem zic (w:World) (B rb:Nat) (M:MV) (lab:Nat→Nat) (h:Mem w B rb M lab (· = 0)) (hs:M.sign=[]) (mr:List (Thk.OP × Value × Value)) (m0 m:Thk.OP × Value × Value) (ho:M.os=mr++[m0]++[m]) (hsg:m.1.sign=[]∨okA m.1.sign)
  (hb0:M.xs.length≤80000) (hb1:m.1.seqs.length≤80000) (hb2:mr.length≤80000) (hb3:m0.1.terms.length≤80000) :
  Calls Tryz.prog 100 #[.pointer (some ⟨rb,0,none⟩),.string ⟨#[41]⟩] w fun e' w'=>QS w B rb (M.st.closed.term (M.xs.length+1) m.1.sign) (.int .i64 0) e' w':=by
 obtain⟨c3,c4,c2,fz⟩:=h.c3
 rw[hs] at c3
 obtain⟨oa,oc,hv⟩:=zl h.op
 rw[hv] at c2
 have hd':¬ (M.os.length:Int)<2:=by rw[ho];simp;omega
 have hcl:=zcb w B rb M lab h (mr++[m0]) m ho (by omega) (by omega) (by simp;omega)
 have hos:M.st.closed.os=mr.map (·.1)++[m0.1]:=by
  show M.st.os.dropLast=_
  simp[MV.st,ho]
 have hxl:M.st.closed.xs.length=M.xs.length+2:=by
  unfold Thk.ST.closed Thk.ST.slash
  simp[Thk.ST.add,Thk.ST.setTop,MV.st]
 have HOS:=z6 hos
 have HXL:=z6 hxl
 clear h hv hos hxl ho
 go_enter Tryz.func100,Tryz.ntmps100
 go_wp2_with fail
 refine hcl.mono ?_
 rintro e1 w1 ⟨rfl,M1,lab1,hM1,hK1,hS1⟩
 obtain⟨mr1,m1,ho1,hmr1,hm1⟩:=zbZ (M:=M1) (by rw[hS1];exact HOS.out)
 have hx1:M1.xs.length=M.xs.length+2:=by have:=HXL.out;rw[← hS1] at this;simpa [MV.st] using this
 have hl1:mr1.length=mr.length:=by rw[← List.length_map (f:=(·.1)),hmr1];simp
 have htm:=VP w1 B rb M1 lab1 hM1 mr1 m1 ho1 (M.xs.length+1) m.1.sign hsg (by omega) (by rw[hm1];omega) (by omega)
 rw[hS1] at htm
 have HK1:=z6 hK1
 clear hcl hM1 hS1 ho1 hK1 hx1 hl1 hmr1 hm1
 go_wp2_with fail
 refine htm.mono ?_
 rintro e1 w2 ⟨rfl,M2,lab2,hM2,hK2,hS2⟩
 have HE:Hid (∃ M' lab',Mem w2 B rb M' lab' (· = 0)∧KT B w w2∧M'.st=M.st.closed.term (M.xs.length+1) m.1.sign):=⟨M2,lab2,hM2,HK1.out.trans hK2,hS2⟩
 clear htm hM2 hK2 hS2
 go_wp2_with fail
 go_ret
 exact⟨rfl,HE.out⟩
theorem Tryz.infoRRule:(Tryz.prog.info? 90).map (fun i=>(i.zero,i.size,i.bytes))=some (some (.agg #[.string ⟨#[]⟩,.int .i64 0]),2,24):=by kernel_rfl
theorem Mem.pushOpen {w w1:World} {B rb:Nat} {M:MV} {lab:Nat→Nat} (h:Mem w B rb M lab (· = 0)) {sg:Thk.z7} {g cap:Nat}
  (hown:w1.ownsRow B 209 3 (.slice (some ⟨g,0,none⟩) (M.os.length+1) cap) (M.os.length+1) (M.os.flatMap opC++[.slice none 0 0,.slice none 0 0,.string ⟨sg.toArray⟩])) (hg:w.grownBy w1 M.vo.ownBlock) (hat:M.vo.ownBlock=some g∨g=w.heap.size) :
  Mem (w1.setCell ⟨rb,2,none⟩ (.slice (some ⟨g,0,none⟩) (M.os.length+1) cap)) B rb { M with vo:=.slice (some ⟨g,0,none⟩) (M.os.length+1) cap,os:=M.os++[(⟨[],[],sg⟩,.slice none 0 0,.slice none 0 0)] } lab (· = 0)∧KT B w (w1.setCell ⟨rb,2,none⟩ (.slice (some ⟨g,0,none⟩) (M.os.length+1) cap)):=by
 have hty:∀ {e:TypeId} {sz:Nat} {u:Value} {n':Nat} {cs':List Value},w.ownsRow B e sz u n' cs'→e≠209→w1.ownsRow B e sz u n' cs':=by
  intro e sz u n' cs' hu he
  exact Z6 hu (fun b hb=>hg.block b (hu.lt b hb).2 (fun e1=>Ki hu h.op he e1.symm hb))
 have hrb1:w1.heap[rb]? = some (rdO M.vx M.vr M.vo M.sign M.may):=by
  rw[hg.block rb h.lt (fun e=>zn h.op h.blk (by decide) e.symm)];exact h.blk
 have c:=Chg.set rb 2 (.slice (some ⟨g,0,none⟩) (M.os.length+1) cap) w1
 have hge:=h.ge
 have hlt:=h.lt
 have hkeep:∀ {e:TypeId} {sz:Nat} {u:Value} {n':Nat} {cs':List Value},w1.ownsRow B e sz u n' cs'→e≠204→(w1.setCell ⟨rb,2,none⟩ (.slice (some ⟨g,0,none⟩) (M.os.length+1) cap)).ownsRow B e sz u n' cs':=fun hu he=>zq c hu (zn hu hrb1 he)
 refine⟨⟨h.ge,by rw[Jo hrb1];rfl,hkeep (hty h.ex (by decide)) (by decide),hkeep (hty h.ru (by decide)) (by decide),?_,fun p hp=>hkeep (hty (h.items p hp) (by decide)) (by decide),fun p hp=>⟨hkeep (hty (h.parts p hp).1 (by decide)) (by decide),(h.parts p hp).2⟩,?_⟩,?_⟩
 ·have:=hkeep hown (by decide)
  simpa [opC] using this
 ·intro k hk
  simp only[] at hk ⊢
  by_cases hkm:k<M.os.length
  ·rw[List.getElem_append_left hkm]
   obtain⟨i1,i2,i3,i4⟩:=h.opens k hkm
   exact⟨hkeep (hty i1 (by decide)) (by decide),i2,hkeep (hty i3 (by decide)) (by decide),i4⟩
  ·have hke:k=M.os.length:=by simp at hk;omega
   subst hke
   rw[List.getElem_append_right (Nat.le_refl _)]
   simp only[Nat.sub_self,List.getElem_cons_zero]
   exact⟨World.ownsRow_nil _ _ _ _,fun b hb=>by simp[Value.ownBlock] at hb,World.ownsRow_nil _ _ _ _,fun b hb=>by simp[Value.ownBlock] at hb⟩
 ·refine KT.trans ⟨hg.os,hg.tape,hg.output,hg.size,?_,?_⟩ (KT.chg c (by have:=hg.size;omega) h.ge (fun cs t fr hb=>by rw[hrb1] at hb;simp at hb;rw[← hb.2.1];decide))
  ·intro k hk
   refine hg.block k (by omega) (fun e1=>?_)
   have:=(h.op.lt k e1.symm).1
   omega
  ·intro k cs t fr hk ht
   refine hg.block k (za hk) (fun e=>?_)
   obtain⟨cs2,hc⟩:=Qw h.op e.symm
   rw[hk] at hc;simp at hc;rw[hc.2.1] at ht;exact ht (by decide)
theorem Mem.pushRule {w w1:World} {B rb:Nat} {M:MV} {lab:Nat→Nat} (h:Mem w B rb M lab (· = 0)) {nm:Thk.z7} {g cap:Nat}
  (hown:w1.ownsRow B 90 2 (.slice (some ⟨g,0,none⟩) (M.rs.length+1) cap) (M.rs.length+1) (M.rs.flatMap ruC++[.string ⟨nm.toArray⟩,.int .i64 0])) (hg:w.grownBy w1 M.vr.ownBlock) (hat:M.vr.ownBlock=some g∨g=w.heap.size) :
  Mem (w1.setCell ⟨rb,1,none⟩ (.slice (some ⟨g,0,none⟩) (M.rs.length+1) cap)) B rb { M with vr:=.slice (some ⟨g,0,none⟩) (M.rs.length+1) cap,rs:=M.rs++[(nm,0)] } lab (· = 0)∧KT B w (w1.setCell ⟨rb,1,none⟩ (.slice (some ⟨g,0,none⟩) (M.rs.length+1) cap)):=by
 have hty:∀ {e:TypeId} {sz:Nat} {u:Value} {n':Nat} {cs':List Value},w.ownsRow B e sz u n' cs'→e≠90→w1.ownsRow B e sz u n' cs':=by
  intro e sz u n' cs' hu he
  exact Z6 hu (fun b hb=>hg.block b (hu.lt b hb).2 (fun e1=>Ki hu h.ru he e1.symm hb))
 have hrb1:w1.heap[rb]? = some (rdO M.vx M.vr M.vo M.sign M.may):=by
  rw[hg.block rb h.lt (fun e=>zn h.ru h.blk (by decide) e.symm)];exact h.blk
 have c:=Chg.set rb 1 (.slice (some ⟨g,0,none⟩) (M.rs.length+1) cap) w1
 have hge:=h.ge
 have hlt:=h.lt
 have hkeep:∀ {e:TypeId} {sz:Nat} {u:Value} {n':Nat} {cs':List Value},w1.ownsRow B e sz u n' cs'→e≠204→(w1.setCell ⟨rb,1,none⟩ (.slice (some ⟨g,0,none⟩) (M.rs.length+1) cap)).ownsRow B e sz u n' cs':=fun hu he=>zq c hu (zn hu hrb1 he)
 refine⟨⟨h.ge,by rw[Jo hrb1];rfl,hkeep (hty h.ex (by decide)) (by decide),?_,hkeep (hty h.op (by decide)) (by decide),fun p hp=>hkeep (hty (h.items p hp) (by decide)) (by decide),fun p hp=>⟨hkeep (hty (h.parts p hp).1 (by decide)) (by decide),(h.parts p hp).2⟩,?_⟩,?_⟩
 ·have:=hkeep hown (by decide)
  simpa [ruC] using this
 ·intro k hk
  obtain⟨i1,i2,i3,i4⟩:=h.opens k hk
  exact⟨hkeep (hty i1 (by decide)) (by decide),i2,hkeep (hty i3 (by decide)) (by decide),i4⟩
 ·refine KT.trans ⟨hg.os,hg.tape,hg.output,hg.size,?_,?_⟩ (KT.chg c (by have:=hg.size;omega) h.ge (fun cs t fr hb=>by rw[hrb1] at hb;simp at hb;rw[← hb.2.1];decide))
  ·intro k hk
   refine hg.block k (by omega) (fun e1=>?_)
   have:=(h.ru.lt k e1.symm).1
   omega
  ·intro k cs t fr hk ht
   refine hg.block k (za hk) (fun e=>?_)
   obtain⟨cs2,hc⟩:=Qw h.ru e.symm
   rw[hk] at hc;simp at hc;rw[hc.2.1] at ht;exact ht (by decide)
theorem zih (w:World) (B rb:Nat) (M:MV) (lab:Nat→Nat) (h:Mem w B rb M lab (· = 0)) (hd:M.os.length≤6) :
  Calls Tryz.prog 100 #[.pointer (some ⟨rb,0,none⟩),.string ⟨#[40]⟩] w fun e' w'=>QS w B rb { M.st with os:=M.st.os++[⟨[],[],M.sign⟩],sign:=[],may:=false } (.int .i64 0) e' w':=by
 obtain⟨i0,hi,hz0,hz1,hz2⟩:=info_parts Tryz.infoOpen
 obtain⟨c3,c4,c2,fz⟩:=h.c3
 obtain⟨oa,oc,hv⟩:=zl h.op
 rw[hv] at c2
 have hown:w.ownsRow B 209 3 (.slice oa M.os.length oc) M.os.length (M.os.flatMap opC):=by rw[← hv];exact h.op
 have hd':¬ (6:Int)<(M.os.length:Int):=by omega
 have hge:=h.ge
 have hlt:=h.lt
 have f2:=fz 2
 have f3:=fz 3
 have f4:=fz 4
 have H:=z6 h
 have HV:=z6 hv
 have HML:Hid (M.os.length+1≤maxLen):=by show _≤_;unfold maxLen;omega
 clear h hv fz
 go_enter Tryz.func100,Tryz.ntmps100
 go_wp2_with (first | (at_builtin;refine wpList_append_lies _ rfl _ _ 202 rfl B 209 i0 _ 3 64 Tryz.underlying202 hi hz0 hz1 hz2 rfl (by decide) _ _ _ rfl (hown.alloc _) ⟨w.heap.size,0,none⟩ 1 1 [.slice none 0 0,.slice none 0 0,.string ⟨M.sign.toArray⟩] rfl rfl ?c1 ?c2 (by decide) HML.out ?c4 ?c5 (w.heap.size+1) (by simp) ?_))
 case c2=>first | exact⟨rfl,rfl⟩ | (intro u hu;simp at hu;rcases hu with rfl | rfl<;>rfl)
 case c4=>omega
 case c5=>first | omega | (simp;omega)
 intro g cap w1 hown' hgrow hat hgl
 have hMW:=H.out.below (lab':=lab) (w':=w.alloc (.cells #[.slice none 0 0,.slice none 0 0,.string ⟨M.sign.toArray⟩] 209)) (zc _ _) (fun _ _=>rfl)
 have hPO:=hMW.pushOpen hown' (by rw[HV.out];exact hgrow) (by rw[HV.out];simpa using hat)
 have hrb1:w1.heap[rb]? = some (rdO M.vx M.vr M.vo M.sign M.may):=by
  rw[hgrow.block rb (by simp;omega) (fun e=>by rw[← HV.out] at e;exact zn H.out.op H.out.blk (by decide) e.symm)]
  rw[zm _ _ hlt];exact H.out.blk
 have d2:w1.cell? ⟨rb,2,none⟩=some M.vo:=z8 hrb1 2
 have d3:w1.cell? ⟨rb,3,none⟩=some (.string ⟨M.sign.toArray⟩):=z8 hrb1 3
 have d4:w1.cell? ⟨rb,4,none⟩=some (.bool M.may):=z8 hrb1 4
 have df:=zi hrb1
 have HPO:=z6 hPO
 clear hMW hPO hrb1 hown hown' hgrow hat c2 c3 c4 f2 f3 f4
 go_wp2_with fail
 obtain⟨h1,k1⟩:=HPO.out
 obtain⟨h2,k2⟩:=h1.setSign []
 obtain⟨h3,k3⟩:=h2.setMay false
 go_ret
 refine⟨rfl,_,_,h3,(KT.alloc B w (by omega) _).trans (k1.trans (k2.trans k3)),?_⟩
 simp[MV.st]
theorem zie (w:World) (B rb:Nat) (M:MV) (lab:Nat→Nat) (h:Mem w B rb M lab (· = 0)) (mr:List (Thk.OP × Value × Value)) (m:Thk.OP × Value × Value) (ho:M.os=mr++[m]) (hsg:M.sign=[]∨okA M.sign)
  (hb0:M.xs.length≤90000) (hb1:m.1.terms.length≤90000) (hb2:mr.length≤90000) :
  Calls Tryz.prog 100 #[.pointer (some ⟨rb,0,none⟩),.string ⟨#[46]⟩] w fun e' w'=>QS w B rb ((({ M.st with sign:=[] }:Thk.ST).add ⟨3,[],[],0,[]⟩).term M.xs.length M.sign) (.int .i64 0) e' w':=by
 obtain⟨c3,c4,c2,fz⟩:=h.c3
 obtain⟨h1,k1⟩:=h.setSign []
 obtain⟨xa,xc,hx⟩:=zl h.ex
 have had:=YG _ B rb xa xc M.xs.length M.vr M.vo [] M.may (M.xs.flatMap exC) 3 none 0 0 ⟨#[]⟩ 0 none 0 0 (by rw[← hx];exact h1.blk) (by rw[← hx];exact h1.ex) (by omega) h1.ge
 simp only[show ((3:Nat):Int)=3 from rfl] at had
 have H1:=z6 h1
 have K1:=z6 k1
 have HX:=z6 hx
 have HO:=z6 ho
 have f3:=fz 3
 clear h h1 k1 hx ho fz
 go_enter Tryz.func100,Tryz.ntmps100
 go_wp2_with fail
 refine had.mono ?_
 rintro e1 w1 ⟨xg,xcap,rfl,hAE⟩
 obtain⟨hM1,hK1⟩:=H1.out.add (re:=⟨3,[],[],0,[]⟩) (iv:=.slice none 0 0) (pv:=.slice none 0 0) (by rw[HX.out];exact hAE) (World.ownsRow_nil _ _ _ _) (World.ownsRow_nil _ _ _ _) (fun b hb=>by simp[Value.ownBlock] at hb)
 have htm:=VP w1 B rb _ lab hM1 mr m HO.out M.xs.length M.sign hsg (by simp;omega) (by omega) (by omega)
 have HK1:=z6 hK1
 clear had hAE hM1 hK1
 go_wp2_with fail
 refine htm.mono ?_
 rintro e1 w2 ⟨rfl,M2,lab2,hM2,hK2,hS2⟩
 have HE:Hid (∃ M' lab',Mem w2 B rb M' lab' (· = 0)∧KT B w w2∧M'.st=(({ M.st with sign:=[] }:Thk.ST).add ⟨3,[],[],0,[]⟩).term M.xs.length M.sign):=⟨M2,lab2,hM2,K1.out.trans (HK1.out.trans hK2),by rw[hS2];simp[MV.st,Thk.ST.add]⟩
 clear htm hM2 hK2 hS2
 go_wp2_with fail
 go_ret
 exact⟨rfl,HE.out⟩
end Go.Proofs.YtiganlkabilblaaGreatDoor
namespace Thk
def Zb (t:Tok):RE:=
 match t.kind with
 | .name=>⟨4,[],t.text,0,[]⟩
 | .lit=>⟨1,t.text.map (fun c=>(c,c)),[],0,[]⟩
 | .cls=>⟨2,t.spans,[],0,[]⟩
 | _=>⟨3,[],[],0,[]⟩
def ST.rule (S:ST):ST:=if S.rs=[] then S else { S.closed with rs:=S.rs.dropLast++[((S.rs.getLastD ([],0)).1,S.xs.length+1)] }
def ST.lay (S:ST) (e:RE):ST:=(({ S with sign:=[] }:ST).add e).term S.xs.length S.sign
def ST.signs (S:ST) (c:UInt8):Except Nat ST:=
 if c=47 then (if S.sign=[] then .ok { S.slash with may:=false } else .error 2)
 else if c=38∨c=33 then (if S.sign=[] then .ok { S with sign:=[c],may:=false } else .error 2)
 else if c=63∨c=42∨c=43 then (if S.may=true then .ok (S.behind [c]) else .error 2)
 else if c=40 then (if 6<S.os.length then .error 3 else .ok { S with os:=S.os++[⟨[],[],S.sign⟩],sign:=[],may:=false })
 else if c=41 then (if S.sign=[]∧2≤S.os.length then .ok (S.closed.term (S.xs.length+1) S.top.sign) else .error 2)
 else .ok (S.lay ⟨3,[],[],0,[]⟩)
def ST.begin (S:ST) (b:z7):ST:={ S.rule with rs:=S.rule.rs++[(b,0)],os:=S.rule.os++[⟨[],[],[]⟩],may:=false }
def run:List Tok→ST→Except (Nat × Nat) ST
 | [],_=>.error (0,0)
 | t::rest,S=>
  match t.kind with
  | .bad=>.error (2,t.place)
  | .fin=>if S.rs=[]∨S.sign≠[]∨1<S.os.length then .error (2,t.place) else .ok S.rule
  | .arrow=>.error (2,t.place)
  | .sign c=>if S.rs=[] then .error (2,t.place) else
   match S.signs c with
   | .error e=>.error (e,t.place)
   | .ok S'=>run rest S'
  | .lit=>if S.rs=[] then .error (2,t.place) else run rest (S.lay (Zb t))
  | .cls=>if S.rs=[] then .error (2,t.place) else run rest (S.lay (Zb t))
  | .name=>
   match rest with
   | []=>.error (0,0)
   | m::rest'=>
    if m.kind.isArrow then
     (if S.sign≠[]∨1<S.os.length then .error (2,m.place) else if 20≤S.rs.length then .error (4,m.place) else run rest' (S.begin t.text))
    else if S.rs=[] then .error (2,m.place) else run (m::rest') (S.lay (Zb t))
theorem VQ {t:Tok} {rest:List Tok} {S:ST} (h:t.kind = .bad):run (t::rest) S = .error (2,t.place):=by
 unfold run;simp only[h]
theorem VR {t:Tok} {rest:List Tok} {S:ST} (h:t.kind = .fin):run (t::rest) S=if S.rs=[]∨S.sign≠[]∨1<S.os.length then .error (2,t.place) else .ok S.rule:=by
 unfold run;simp only[h]
theorem KV {t:Tok} {rest:List Tok} {S:ST} (h:t.kind = .arrow):run (t::rest) S = .error (2,t.place):=by
 unfold run;simp only[h]
theorem JW {t:Tok} {rest:List Tok} {S:ST} {c:UInt8} (h:t.kind = .sign c) (hr:S.rs≠[]):run (t::rest) S=match S.signs c with
   | .error e=>.error (e,t.place)
   | .ok S'=>run rest S':=by
 rw[run.eq_def];simp only[h,if_neg hr]
theorem zcw {t:Tok} {rest:List Tok} {S:ST} (h:t.kind = .lit) (hr:S.rs≠[]):run (t::rest) S=run rest (S.lay (Zb t)):=by
 rw[run.eq_def];simp only[h,if_neg hr]
theorem zcv {t:Tok} {rest:List Tok} {S:ST} (h:t.kind = .cls) (hr:S.rs≠[]):run (t::rest) S=run rest (S.lay (Zb t)):=by
 rw[run.eq_def];simp only[h,if_neg hr]
theorem zcx {t m:Tok} {rest:List Tok} {S:ST} (h:t.kind = .name) (hr:S.rs≠[]) (ha:m.kind.isArrow=false):run (t::m::rest) S=run (m::rest) (S.lay (Zb t)):=by
 rw[run];simp only[h,ha,if_neg hr,Bool.false_eq_true,if_false]
theorem UZ {t m:Tok} {rest:List Tok} {S:ST} (h:t.kind = .name) (ha:m.kind.isArrow=true):run (t::m::rest) S=if S.sign≠[]∨1<S.os.length then .error (2,m.place) else if 20≤S.rs.length then .error (4,m.place) else run rest (S.begin t.text):=by
 rw[run];simp only[h,ha,if_true]
def Wf:List Tok→Prop
 | []=>False
 | t::r=>(∀ c,t.kind = .sign c→Qf c=true)∧if t.kind.last then r=[] else Wf r
theorem Wf.form {ts:List Tok} (h:Wf ts):∃ t r,ts=t::r∧(∀ c,t.kind = .sign c→Qf c=true)∧(t.kind.last=false→Wf r):=by
 cases ts with
 | nil=>exact h.elim
 | cons t r=>exact⟨t,r,rfl,h.1,fun hl=>by have:=h.2;rw[if_neg (by simp[hl])] at this;exact this⟩
def Kz (ts:List Tok):Prop:=(hd ts).kind = .sign 63∨(hd ts).kind = .sign 42∨(hd ts).kind = .sign 43
mutual
def zw (xs:List RE) (k:Nat):zC→Prop
  | .name b=>xs[k]? = some ⟨4,[],b,0,[]⟩
  | .lit b=>xs[k]? = some ⟨1,b.map (fun c=>(c,c)),[],0,[]⟩
  | .cls l=>xs[k]? = some ⟨2,l,[],0,[]⟩
  | .any=>xs[k]? = some ⟨3,[],[],0,[]⟩
  | .group c=>∃ qs,xs[k]? = some ⟨6,[],[],0,qs⟩∧zZ xs qs c
def Zw (xs:List RE) (k:Nat):Term→Prop
  | .mk a p b=>∃ i j,(if a=0 then k=i else xs[k]? = some (zy (zE [a]) i))∧(if b=0 then i=j else xs[i]? = some (zy (zE [b]) j))∧zw xs j p∧(b=0∨b=63∨b=42∨b=43)∧(a=0∨a=38∨a=33)
def Z7 (xs:List RE):List Nat→List Term→Prop
  | ks,[]=>ks=[]
  | ks,t::s=>∃ k ks',ks=k::ks'∧Zw xs k t∧Z7 xs ks' s
def zZ (xs:List RE):List Nat→List (List Term)→Prop
  | qs,[]=>qs=[]
  | qs,s::c=>∃ q qs' ks,qs=q::qs'∧xs[q]? = some ⟨5,[],[],0,ks⟩∧Z7 xs ks s∧zZ xs qs' c
 end
theorem YF {xs ys:List RE} (h:xs <+: ys) {k:Nat} {e:RE} (hk:xs[k]? = some e):ys[k]? = some e:=by
 obtain⟨zs,rfl⟩:=h
 rw[List.getElem?_append_left (List.getElem?_eq_some_iff.1 hk).1];exact hk
mutual
theorem zw.mono {xs ys:List RE} (h:xs <+: ys) {k:Nat}:∀ p:zC,zw xs k p→zw ys k p
  | .name b=>by simp only[zw];exact YF h
  | .lit b=>by simp only[zw];exact YF h
  | .cls l=>by simp only[zw];exact YF h
  | .any=>by simp only[zw];exact YF h
  | .group c=>by
    simp only[zw]
    rintro⟨qs,h1,h2⟩
    exact⟨qs,YF h h1,zZ.mono h c h2⟩
theorem Zw.mono {xs ys:List RE} (h:xs <+: ys) {k:Nat}:∀ t:Term,Zw xs k t→Zw ys k t
  | .mk a p b=>by
    simp only[Zw]
    rintro⟨i,j,h1,h2,h3,h4⟩
    refine⟨i,j,?_,?_,zw.mono h p h3,h4⟩
    · split
      · rename_i ha;rw[if_pos ha] at h1;exact h1
      · rename_i ha;rw[if_neg ha] at h1;exact YF h h1
    · split
      · rename_i ha;rw[if_pos ha] at h2;exact h2
      · rename_i ha;rw[if_neg ha] at h2;exact YF h h2
theorem Z7.mono {xs ys:List RE} (h:xs <+: ys):∀ {ks:List Nat} (s:List Term),Z7 xs ks s→Z7 ys ks s
  | ks,[]=>by simp only[Z7];exact id
  | ks,t::s=>by
    simp only[Z7]
    rintro⟨k,ks',h1,h2,h3⟩
    exact⟨k,ks',h1,Zw.mono h t h2,Z7.mono h s h3⟩
theorem zZ.mono {xs ys:List RE} (h:xs <+: ys):∀ {qs:List Nat} (c:List (List Term)),zZ xs qs c→zZ ys qs c
  | qs,[]=>by simp only[zZ];exact id
  | qs,s::c=>by
    simp only[zZ]
    rintro⟨q,qs',ks,h1,h2,h3,h4⟩
    exact⟨q,qs',ks,h1,YF h h2,Z7.mono h s h3,zZ.mono h c h4⟩
 end
theorem VX (T:ST) (j:Nat) (sg:z7):(T.term j sg).xs=if sg=[] then T.xs else T.xs++[zy (zE sg) j]:=by
 unfold ST.term;split<;>simp[ST.push,ST.setTop,ST.add]
theorem Kk (T:ST) (j:Nat) (sg:z7) {pre:List OP} {o:OP} (h:T.os=pre++[o]):(T.term j sg).os=pre++[{ o with terms:=o.terms++[if sg=[] then j else T.xs.length] }]:=by
 unfold ST.term;split
 ·rename_i hs;simp[ST.push,ST.setTop,ST.top,h,List.getLastD_concat,hs]
 ·rename_i hs;simp[ST.push,ST.setTop,ST.top,ST.add,h,List.getLastD_concat]
theorem VW (T:ST) (j:Nat) (sg:z7):(T.term j sg).rs=T.rs:=by
 unfold ST.term;split<;>simp[ST.push,ST.setTop,ST.add]
theorem zaz (T:ST) (j:Nat) (sg:z7):(T.term j sg).sign=T.sign:=by
 unfold ST.term;split<;>simp[ST.push,ST.setTop,ST.add]
theorem zd6 (T:ST) (j:Nat) (sg:z7):(T.term j sg).may=true:=by
 unfold ST.term;split<;>simp[ST.push]
structure Laid (S:ST) (pre:List OP) (o:OP) (pc:zC) (S':ST) (xs1:List RE) (j:Nat):Prop where
 ext:S.xs <+: xs1
 den:zw xs1 j pc
 xs:S'.xs=if S.sign=[] then xs1 else xs1++[zy (zE S.sign) j]
 os:S'.os=pre++[{ o with terms:=o.terms++[if S.sign=[] then j else xs1.length] }]
 rs:S'.rs=S.rs
 sign:S'.sign=[]
 may:S'.may=true
structure U6 (d:Nat) (ts:List Tok) (S:ST) (pre:List OP) (o:OP):Prop where
 wf:Wf ts
 os:S.os=pre++[o]
 len:pre.length=d
 rs:S.rs≠[]
 deep:d≤6
 sg:S.sign=[]∨((S.sign=[38]∨S.sign=[33])∧S.may=false)
 here:S.sign=[]→zX d ts=true∧(hd ts).kind≠.sign 38∧(hd ts).kind≠.sign 33
def MPc (d:Nat) (ts:List Tok) (r:Res zC):Prop:=∀ S pre o,U6 d ts S pre o →
 match r with
 | .err e p=>run ts S = .error (e,p)
 | .ok pc rest=>Wf rest∧∃ S' xs1 j,run ts S=run rest S'∧Laid S pre o pc S' xs1 j
structure QG (d:Nat) (ts:List Tok) (S:ST) (pre:List OP) (o:OP):Prop where
 wf:Wf ts
 os:S.os=pre++[o]
 len:pre.length=d
 rs:S.rs≠[]
 deep:d≤6
 sign:S.sign=[]
 may:S.may=true→¬ Kz ts
def MTm (d:Nat) (ts:List Tok) (r:Res Term):Prop:=∀ S pre o,QG d ts S pre o→zX d ts=true →
 match r with
 | .err e p=>run ts S = .error (e,p)
 | .ok t rest=>∃ S' k,run ts S=run rest S'∧S'.rs=S.rs∧QG d rest S' pre { o with terms:=o.terms++[k] }∧S.xs <+: S'.xs∧Zw S'.xs k t
def MSq (d:Nat) (ts:List Tok) (r:Res Seq):Prop:=∀ S pre o,QG d ts S pre o →
 match r with
 | .err e p=>run ts S = .error (e,p)
 | .ok s rest=>zX d rest=false∧∃ S' ks,run ts S=run rest S'∧S'.rs=S.rs∧QG d rest S' pre { o with terms:=o.terms++ks }∧S.xs <+: S'.xs∧Z7 S'.xs ks s
def MCh (d:Nat) (ts:List Tok) (r:Res Z5):Prop:=∀ S pre o,QG d ts S pre o→o.terms=[] →
 match r with
 | .err e p=>run ts S = .error (e,p)
 | .ok c rest=>zX d rest=false∧(hd rest).kind≠.sign 47∧∃ S' qs ks c0 s,run ts S=run rest S'∧S'.rs=S.rs∧QG d rest S' pre ⟨o.seqs++qs,ks,o.sign⟩∧S.xs <+: S'.xs∧c=c0++[s]∧zZ S'.xs qs c0∧Z7 S'.xs ks s
theorem UL {d:Nat} {ts:List Tok} {S:ST} {pre:List OP} {o:OP} (h:U6 d ts S pre o) {e:RE} {pc:zC} (hd:zw (S.xs++[e]) S.xs.length pc):Laid S pre o pc (S.lay e) (S.xs++[e]) S.xs.length:=by
 have e1:(({ S with sign:=[] }:ST).add e).xs=S.xs++[e]:=rfl
 have e2:(({ S with sign:=[] }:ST).add e).os=pre++[o]:=h.os
 refine⟨⟨[e],rfl⟩,hd,?_,?_,?_,?_,?_⟩
 ·unfold ST.lay;rw[VX,e1]
 ·unfold ST.lay;rw[Kk _ _ _ e2,e1]
 ·unfold ST.lay;rw[VW];rfl
 ·unfold ST.lay;rw[zaz];rfl
 ·unfold ST.lay;rw[zd6]
theorem YA {xs:List RE} {e:RE}:(xs++[e])[xs.length]? = some e:=by simp
theorem zgd {d:Nat} {ts:List Tok} {p:zC} (hp:zU (hd ts)=some p):MPc d ts (.ok p ts.tail):=by
 intro S pre o h
 obtain⟨t,r,rfl,hok,hr⟩:=h.wf.form
 simp only[hd,List.headD_cons] at hp
 simp only[List.tail_cons]
 have hos:S.os.length=d+1:=by rw[h.os];simp[h.len]
 have hrs:=h.rs
 cases hk:t.kind with
 | name=>
  simp only[zU,hk,Option.some.injEq] at hp
  subst hp
  have hw:=hr (by rw[hk];rfl)
  have hE:zw (S.xs++[Zb t]) S.xs.length (.name t.text):=by
   simp only[zw,YA,Zb,hk]
  refine⟨hw,S.lay (Zb t),S.xs++[Zb t],S.xs.length,?_,UL h hE⟩
  obtain⟨m,r',rfl,_⟩:=hw.form
  by_cases ha:m.kind.isArrow=true
  ·have hka:m.kind = .arrow:=by
    cases hm:m.kind<;>simp[hm,TK.isArrow] at ha ⊢
   have h2:S.sign≠[]∨1<S.os.length:=by
    by_cases hs:S.sign=[]
    ·right
     have hb:=(h.here hs).1
     simp only[zX,hd,List.headD_cons,hk,List.tail_cons,ha] at hb
     have:d≠0:=by
      intro e;subst e;simp at hb
     omega
    ·exact .inl hs
   rw[UZ hk ha,if_pos h2,KV hka]
  ·exact zcx hk hrs (by simpa using ha)
 | lit=>
  simp only[zU,hk,Option.some.injEq] at hp
  subst hp
  have hE:zw (S.xs++[Zb t]) S.xs.length (.lit t.text):=by simp only[zw,YA,Zb,hk]
  refine⟨hr (by rw[hk];rfl),S.lay (Zb t),S.xs++[Zb t],S.xs.length,zcw hk hrs,UL h hE⟩
 | cls=>
  simp only[zU,hk,Option.some.injEq] at hp
  subst hp
  have hE:zw (S.xs++[Zb t]) S.xs.length (.cls t.spans):=by simp only[zw,YA,Zb,hk]
  refine⟨hr (by rw[hk];rfl),S.lay (Zb t),S.xs++[Zb t],S.xs.length,zcv hk hrs,UL h hE⟩
 | sign c=>
  simp only[zU,hk] at hp
  split at hp
  ·rename_i hc
   subst hc
   simp only[Option.some.injEq] at hp
   subst hp
   have hE:zw (S.xs++[⟨3,[],[],0,[]⟩]) S.xs.length .any:=by simp only[zw,YA]
   refine⟨hr (by rw[hk];rfl),S.lay ⟨3,[],[],0,[]⟩,S.xs++[⟨3,[],[],0,[]⟩],S.xs.length,?_,UL h hE⟩
   rw[JW hk hrs];simp[ST.signs]
  ·cases hp
 | fin=>simp[zU,hk] at hp
 | bad=>simp[zU,hk] at hp
 | arrow=>simp[zU,hk] at hp
theorem VS {c:UInt8} (h:Qf c=true):c=47∨c=38∨c=33∨c=63∨c=42∨c=43∨c=40∨c=41∨c=46:=by
 simpa [Qf] using h
theorem zg5 {d:Nat} {ts:List Tok} (hn:zU (hd ts)=none) (hk4:(hd ts).kind≠.sign 40):MPc d ts (.err 2 (hd ts).place):=by
 intro S pre o h
 obtain⟨t,r,rfl,hok,hr⟩:=h.wf.form
 simp only[hd,List.headD_cons] at hn hk4 ⊢
 have hrs:=h.rs
 have hs:S.sign≠[]∧S.may=false:=by
  rcases h.sg with hs | ⟨hs,hm⟩
  ·exfalso
   obtain⟨hb,h38,h33⟩:=h.here hs
   simp only[hd,List.headD_cons] at h38 h33
   simp only[zX,hd,List.headD_cons] at hb
   cases hk:t.kind with
   | sign c=>
    simp only[hk] at hb hk4 h38 h33
    simp only[zU,hk] at hn
    have h1:c≠46:=by intro e;subst e;simp at hn
    have h2:c≠40:=by intro e;subst e;exact hk4 rfl
    have h3:c≠38:=by intro e;subst e;exact h38 rfl
    have h4:c≠33:=by intro e;subst e;exact h33 rfl
    simp[h1,h2,h3,h4] at hb
   | name=>simp[zU,hk] at hn
   | lit=>simp[zU,hk] at hn
   | cls=>simp[zU,hk] at hn
   | fin=>simp[hk] at hb
   | bad=>simp[hk] at hb
   | arrow=>simp[hk] at hb
  ·exact⟨by rcases hs with hs | hs<;>rw[hs]<;>simp,hm⟩
 obtain⟨hs,hm⟩:=hs
 cases hk:t.kind with
 | sign c=>
  simp only[zU,hk] at hn
  have h1:c≠46:=by intro e;subst e;simp at hn
  have h2:c≠40:=by intro e;subst e;exact hk4 hk
  rw[JW hk hrs]
  rcases VS (hok c hk) with rfl | rfl | rfl | rfl | rfl | rfl | rfl | rfl | rfl<;>simp[ST.signs,hs,hm] at h1 h2 ⊢
 | name=>simp[zU,hk] at hn
 | lit=>simp[zU,hk] at hn
 | cls=>simp[zU,hk] at hn
 | fin=>rw[VR hk];simp[hs]
 | bad=>rw[VQ hk]
 | arrow=>rw[KV hk]
theorem zga {ts:List Tok} (hk:(hd ts).kind = .sign 40):MPc 6 ts (.err 3 (hd ts).place):=by
 intro S pre o h
 obtain⟨t,r,rfl,hok,hr⟩:=h.wf.form
 simp only[hd,List.headD_cons] at hk ⊢
 have hos:S.os.length=7:=by rw[h.os];simp[h.len]
 rw[JW hk h.rs];simp[ST.signs,hos]
theorem zeI {d:Nat} {ts:List Tok} {S:ST} {pre:List OP} {o:OP} (h:QG d ts S pre o) (hd0:d≠0) (hb:zX d ts=false) (h47:(hd ts).kind≠.sign 47) (h41:(hd ts).kind≠.sign 41):run ts S = .error (2,(hd ts).place):=by
 obtain⟨t,r,rfl,hok,hr⟩:=h.wf.form
 have hmay:=h.may
 simp only[hd,List.headD_cons,Kz] at hb h47 h41 hmay ⊢
 have hrs:=h.rs
 have hos : 1<S.os.length:=by rw[h.os];simp[h.len];omega
 simp only[zX,hd,List.headD_cons] at hb
 cases hk:t.kind with
 | sign c=>
  simp only[hk] at hb h47 h41 hmay
  rw[JW hk hrs]
  rcases VS (hok c hk) with rfl | rfl | rfl | rfl | rfl | rfl | rfl | rfl | rfl<;>simp[ST.signs] at hb h47 h41 hmay ⊢<;>simp[hmay]
 | name=>simp[hk,hd0] at hb
 | lit=>simp[hk] at hb
 | cls=>simp[hk] at hb
 | fin=>rw[VR hk];simp[hos]
 | bad=>rw[VQ hk]
 | arrow=>rw[KV hk]
theorem za1 {d:Nat} {ts:List Tok} {S:ST} {pre:List OP} {o:OP} (h:U6 d ts S pre o) (hk:(hd ts).kind = .sign 40) (hd6:d≠6) :
  run ts S=run ts.tail { S with os:=S.os++[⟨[],[],S.sign⟩],sign:=[],may:=false }∧QG (d+1) ts.tail { S with os:=S.os++[⟨[],[],S.sign⟩],sign:=[],may:=false } (pre++[o]) ⟨[],[],S.sign⟩:=by
 obtain⟨t,r,rfl,hok,hr⟩:=h.wf.form
 simp only[hd,List.headD_cons] at hk
 have hos:S.os.length=d+1:=by rw[h.os];simp[h.len]
 have hdp:=h.deep
 refine⟨?_,⟨hr (by rw[hk];rfl),by simp[h.os],by simp[h.len],h.rs,by omega,rfl,by simp⟩⟩
 have:¬ 6<S.os.length:=by omega
 simp only[List.tail_cons]
 rw[JW hk h.rs];simp[ST.signs,this]
theorem VT {S:ST} {pre:List OP} {o:OP} (h:S.os=pre++[o]):S.slash.os=pre++[⟨o.seqs++[S.xs.length],[],o.sign⟩]∧S.slash.xs=S.xs++[⟨5,[],[],0,o.terms⟩]∧S.slash.rs=S.rs∧S.slash.sign=S.sign:=by
 simp[ST.slash,ST.setTop,ST.add,ST.top,h,List.getLastD_concat]
theorem KG {S:ST} {pre:List OP} {o:OP} (h:S.os=pre++[o]):S.closed.os=pre∧S.closed.xs=S.xs++[⟨5,[],[],0,o.terms⟩]++[⟨6,[],[],0,o.seqs++[S.xs.length]⟩]∧S.closed.rs=S.rs∧S.closed.sign=S.sign:=by
 obtain⟨h1,h2,h3,h4⟩:=VT h
 simp[ST.closed,ST.add,h2,h3,h4,ST.top,h,List.getLastD_concat]
theorem zZ.snoc {xs:List RE}:∀ {qs:List Nat} (c:List (List Term)) {q:Nat} {ks:List Nat} {s:List Term},zZ xs qs c→xs[q]? = some ⟨5,[],[],0,ks⟩→Z7 xs ks s→zZ xs (qs++[q]) (c++[s])
 | qs,[],q,ks,s=>by
  intro h h1 h2
  simp only[zZ] at h
  subst h
  simp only[List.nil_append,zZ]
  exact⟨q,[],ks,rfl,h1,h2,rfl⟩
 | qs,s0::c,q,ks,s=>by
  intro h h1 h2
  simp only[zZ] at h
  obtain⟨q0,qs',ks',rfl,g1,g2,g3⟩:=h
  simp only[List.cons_append,zZ]
  exact⟨q0,qs'++[q],ks',rfl,g1,g2,zZ.snoc c g3 h1 h2⟩
theorem zgb {d:Nat} {ts:List Tok} {c:Z5} {rest:List Tok} (hk:(hd ts).kind = .sign 40) (hd6:d≠6) (hcl:(hd rest).kind = .sign 41) (ih:MCh (d+1) ts.tail (.ok c rest)):MPc d ts (.ok (.group c) rest.tail):=by
 intro S pre o h
 obtain⟨h1,h2⟩:=za1 h hk hd6
 obtain⟨_,_,S',qs,ks,c0,s,e1,er,e2,e3,rfl,e5,e6⟩:=ih _ _ _ h2 rfl
 obtain⟨t,r,rfl,hok,hr⟩:=e2.wf.form
 simp only[hd,List.headD_cons] at hcl
 simp only[List.nil_append] at e2
 obtain⟨f1,f2,f3,f4⟩:=KG e2.os
 have hos : 2≤S'.os.length:=by rw[e2.os];simp
 have htop:S'.top.sign=S.sign:=by simp[ST.top,e2.os,List.getLastD_concat]
 have hxs1:S'.xs <+: S'.closed.xs:=by rw[f2];exact⟨[⟨5,[],[],0,ks⟩,⟨6,[],[],0,qs++[S'.xs.length]⟩],by simp⟩
 refine⟨hr (by rw[hcl];rfl),S'.closed.term (S'.xs.length+1) S.sign,S'.closed.xs,S'.xs.length+1,?_,?_⟩
 ·rw[h1,e1]
  rw[JW hcl e2.rs];simp[ST.signs,e2.sign,hos,htop]
 ·refine⟨e3.trans hxs1,?_,VX _ _ _,Kk _ _ _ f1,?_,?_,zd6 _ _ _⟩
  ·simp only[zw]
   refine⟨qs++[S'.xs.length],by rw[f2];simp,zZ.snoc c0 (zZ.mono hxs1 c0 e5) (ks:=ks) (by rw[f2];simp) (Z7.mono hxs1 s e6)⟩
  ·rw[VW,f3,er]
  ·rw[zaz,f4];exact e2.sign
theorem zgk {d:Nat} {ts:List Tok} {c:Z5} {rest:List Tok} (hk:(hd ts).kind = .sign 40) (hd6:d≠6) (hcl:(hd rest).kind≠.sign 41) (ih:MCh (d+1) ts.tail (.ok c rest)):MPc d ts (.err 2 (hd rest).place):=by
 intro S pre o h
 obtain⟨h1,h2⟩:=za1 h hk hd6
 obtain⟨hb,h47,S',qs,ks,c0,s,e1,er,e2,_⟩:=ih _ _ _ h2 rfl
 show run ts S=_
 rw[h1,e1]
 exact zeI e2 (by omega) hb h47 hcl
theorem zgc {d:Nat} {ts:List Tok} {e p:Nat} (hk:(hd ts).kind = .sign 40) (hd6:d≠6) (ih:MCh (d+1) ts.tail (.err e p)):MPc d ts (.err e p):=by
 intro S pre o h
 obtain⟨h1,h2⟩:=za1 h hk hd6
 show run ts S=_
 rw[h1]
 exact ih _ _ _ h2 rfl
theorem zw.kind {xs:List RE} {j:Nat} {p:zC} (h:zw xs j p):∃ x,xs[j]? = some x∧¬ (x.kind=10∨x.kind=11):=by
 cases p with
 | name b=>simp only[zw] at h;exact⟨_,h,by simp⟩
 | lit b=>simp only[zw] at h;exact⟨_,h,by simp⟩
 | cls l=>simp only[zw] at h;exact⟨_,h,by simp⟩
 | any=>simp only[zw] at h;exact⟨_,h,by simp⟩
 | group c=>simp only[zw] at h;obtain⟨qs,h,_⟩:=h;exact⟨_,h,by simp⟩
theorem zdW {t:Tok} {r:List Tok} {b:UInt8} (hk:t.kind = .sign b) (hb:b=63∨b=42∨b=43):Zg (t::r)=(b,r):=by
 unfold Zg;simp only[hd,List.headD_cons,hk]
 rw[if_pos hb];rfl
theorem zdV {ts:List Tok} (h:¬ Kz ts):Zg ts=(0,ts):=by
 unfold Zg
 split
 ·rename_i c hc
  rw[if_neg]
  rintro (rfl | rfl | rfl)
  ·exact h (.inl hc)
  ·exact h (.inr (.inl hc))
  ·exact h (.inr (.inr hc))
 ·rfl
theorem zdY {d:Nat} {S:ST} {pre:List OP} {o:OP} {pc:zC} {S':ST} {xs1:List RE} {j:Nat} {rest:List Tok} {a:UInt8} (h:Laid S pre o pc S' xs1 j) (hw:Wf rest) (hlen:pre.length=d) (hrs:S.rs≠[]) (hdp:d≤6)
  (ha:(a=0∧S.sign=[])∨(S.sign=[a]∧(a=38∨a=33))) :
  ∃ S2 k,run rest S'=run (Zg rest).2 S2∧S2.rs=S.rs∧QG d (Zg rest).2 S2 pre { o with terms:=o.terms++[k] }∧S.xs <+: S2.xs∧Zw S2.xs k (.mk a pc (Zg rest).1):=by
 obtain⟨x,hx1,hx2⟩:=h.den.kind
 have hjl:j<xs1.length:=(List.getElem?_eq_some_iff.1 hx1).1
 by_cases hbt:Kz rest
 ·obtain⟨t,r,rfl,hok,hr⟩:=hw.form
  obtain⟨b,hk,hb⟩:∃ b,t.kind = .sign b∧(b=63∨b=42∨b=43):=by
   simp only[Kz,hd,List.headD_cons] at hbt
   rcases hbt with hk | hk | hk
   ·exact⟨63,hk,.inl rfl⟩
   ·exact⟨42,hk,.inr (.inl rfl)⟩
   ·exact⟨43,hk,.inr (.inr rfl)⟩
  have hb0:b≠0:=by rcases hb with rfl | rfl | rfl<;>decide
  rw[zdW hk hb]
  have hrun:run (t::r) S'=run r (S'.behind [b]):=by
   rw[JW hk (by rw[h.rs];exact hrs)]
   rcases hb with rfl | rfl | rfl<;>simp[ST.signs,h.may]
  have htop:S'.top = { o with terms:=o.terms++[if S.sign=[] then j else xs1.length] }:=by simp[ST.top,h.os,List.getLastD_concat]
  have hlast:S'.top.terms.getLastD 0=if S.sign=[] then j else xs1.length:=by rw[htop];simp[List.getLastD_concat]
  rcases ha with ⟨rfl,hs⟩ | ⟨hs,ha⟩
  ·-- no sign ahead
   rw[if_pos hs] at hlast
   have hxs:S'.xs=xs1:=by rw[h.xs,if_pos hs]
   have hgd:S'.xs.getD j RE.z=x:=by rw[hxs,List.getD_eq_getElem?_getD,hx1];rfl
   have hbe:S'.behind [b] = { (S'.add (zy (zE [b]) j)).setTop { S'.top with terms:=S'.top.terms.dropLast++[S'.xs.length] } with may:=false }:=by
    unfold ST.behind;simp only[hlast,hgd,if_neg hx2]
   refine⟨S'.behind [b],xs1.length,hrun,?_,⟨hr (by rw[hk];rfl),?_,hlen,?_,hdp,?_,?_⟩,?_,?_⟩
   ·rw[hbe];exact h.rs
   ·rw[hbe];simp[ST.setTop,ST.add,htop,h.os,hs,hxs]
   ·rw[hbe];simp[ST.setTop,ST.add,h.rs,hrs]
   ·rw[hbe];simp[ST.setTop,ST.add,h.sign]
   ·rw[hbe];simp
   ·rw[hbe];simp only[ST.setTop,ST.add,hxs];exact h.ext.trans ⟨[zy (zE [b]) j],rfl⟩
   ·rw[hbe];simp only[ST.setTop,ST.add,hxs,Zw]
    refine⟨xs1.length,j,by simp,?_,zw.mono ⟨[zy (zE [b]) j],rfl⟩ _ h.den,.inr hb,.inl (by trivial)⟩
    rw[if_neg hb0];exact YA
  ·-- a sign ahead
   have hs0:S.sign≠[]:=by rw[hs];simp
   have ha0:a≠0:=by rcases ha with rfl | rfl<;>decide
   rw[if_neg hs0] at hlast
   have hxs:S'.xs=xs1++[zy (zE [a]) j]:=by rw[h.xs,if_neg hs0,hs]
   have hgd:S'.xs.getD xs1.length RE.z=zy (zE [a]) j:=by rw[hxs,List.getD_eq_getElem?_getD,YA];rfl
   have hak:(zy (zE [a]) j).kind=10∨(zy (zE [a]) j).kind=11:=by
    rcases ha with rfl | rfl
    ·left;rfl
    ·right;rfl
   have hbe:S'.behind [b] = { S' with xs:=(S'.xs++[zy (zE [b]) j]).set xs1.length (zy (zE [a]) S'.xs.length),may:=false }:=by
    unfold ST.behind;simp only[hlast,hgd,if_pos hak];rfl
   have hx':(S'.xs++[zy (zE [b]) j]).set xs1.length (zy (zE [a]) S'.xs.length)=xs1++[zy (zE [a]) (xs1.length+1),zy (zE [b]) j]:=by
    rw[hxs];simp
   refine⟨S'.behind [b],xs1.length,hrun,?_,⟨hr (by rw[hk];rfl),?_,hlen,?_,hdp,?_,?_⟩,?_,?_⟩
   ·rw[hbe];exact h.rs
   ·rw[hbe];simp[h.os,hs0]
   ·rw[hbe];simp[h.rs,hrs]
   ·rw[hbe];simp[h.sign]
   ·rw[hbe];simp
   ·rw[hbe];simp only[hx'];exact h.ext.trans ⟨_,rfl⟩
   ·rw[hbe];simp only[hx',Zw]
    refine⟨xs1.length+1,j,?_,?_,zw.mono ⟨_,rfl⟩ _ h.den,.inr hb,.inr ha⟩
    ·rw[if_neg ha0];simp
    ·rw[if_neg hb0];simp
 ·rw[zdV hbt]
  rcases ha with ⟨rfl,hs⟩ | ⟨hs,ha⟩
  ·have hxs:S'.xs=xs1:=by rw[h.xs,if_pos hs]
   refine⟨S',j,rfl,h.rs,⟨hw,by rw[h.os,if_pos hs],hlen,by rw[h.rs];exact hrs,hdp,h.sign,fun _=>hbt⟩,by rw[hxs];exact h.ext,?_⟩
   simp only[Zw]
   exact⟨j,j,by simp,by simp,by rw[hxs];exact h.den,.inl (by trivial),.inl (by trivial)⟩
  ·have hs0:S.sign≠[]:=by rw[hs];simp
   have ha0:a≠0:=by rcases ha with rfl | rfl<;>decide
   have hxs:S'.xs=xs1++[zy (zE [a]) j]:=by rw[h.xs,if_neg hs0,hs]
   refine⟨S',xs1.length,rfl,h.rs,⟨hw,by rw[h.os,if_neg hs0],hlen,by rw[h.rs];exact hrs,hdp,h.sign,fun _=>hbt⟩,by rw[hxs];exact h.ext.trans ⟨_,rfl⟩,?_⟩
   simp only[Zw]
   refine⟨j,j,?_,by simp,by rw[hxs];exact zw.mono ⟨_,rfl⟩ _ h.den,.inl (by trivial),.inr ha⟩
   rw[if_neg ha0,hxs];exact YA
theorem zaX {d:Nat} {ts:List Tok} {S:ST} {pre:List OP} {o:OP} (h:QG d ts S pre o) (hb:zX d ts=true) :
  ∃ S1,run ts S=run (Z9 ts).2 S1∧S1.xs=S.xs∧S1.rs=S.rs∧U6 d (Z9 ts).2 S1 pre o∧(((Z9 ts).1=0∧S1.sign=[])∨(S1.sign=[(Z9 ts).1]∧((Z9 ts).1=38∨(Z9 ts).1=33))):=by
 obtain⟨t,r,rfl,hok,hr⟩:=h.wf.form
 by_cases hc:∃ c,t.kind = .sign c∧(c=38∨c=33)
 ·obtain⟨c,hk,hc⟩:=hc
  have e:Z9 (t::r)=(c,r):=by
   unfold Z9;simp only[hd,List.headD_cons,hk];rw[if_pos hc];rfl
  rw[e]
  refine⟨{ S with sign:=[c],may:=false },?_,rfl,rfl,⟨hr (by rw[hk];rfl),h.os,h.len,h.rs,h.deep,.inr ⟨by rcases hc with rfl | rfl<;>simp,rfl⟩,fun he=>by simp at he⟩,.inr ⟨rfl,hc⟩⟩
  rw[JW hk h.rs]
  rcases hc with rfl | rfl<;>simp[ST.signs,h.sign]
 ·have e:Z9 (t::r)=(0,t::r):=by
   unfold Z9;simp only[hd,List.headD_cons]
   split
   ·rename_i c hk
    rw[if_neg]
    intro h'
    exact hc ⟨c,hk,h'⟩
   ·rfl
  rw[e]
  refine⟨S,rfl,rfl,rfl,⟨h.wf,h.os,h.len,h.rs,h.deep,.inl h.sign,fun _=>⟨hb,?_,?_⟩⟩,.inl ⟨rfl,h.sign⟩⟩
  ·intro hk;exact hc ⟨38,hk,.inl rfl⟩
  ·intro hk;exact hc ⟨33,hk,.inr rfl⟩
theorem zgj {d:Nat} {ts:List Tok} {p:zC} {rest:List Tok} (ih:MPc d (Z9 ts).2 (.ok p rest)):MTm d ts (.ok (.mk (Z9 ts).1 p (Zg rest).1) (Zg rest).2):=by
 intro S pre o h hb
 obtain⟨S1,h1,h2,h3,h4,h5⟩:=zaX h hb
 obtain⟨hw,S',xs1,j,g1,g2⟩:=ih S1 pre o h4
 obtain⟨S2,k,k1,k2,k3,k4,k5⟩:=zdY g2 hw h4.len h4.rs h4.deep h5
 exact⟨S2,k,by rw[h1,g1,k1],by rw[k2,h3],k3,by rw[← h2];exact k4,k5⟩
theorem zgi {d:Nat} {ts:List Tok} {e p:Nat} (ih:MPc d (Z9 ts).2 (.err e p)):MTm d ts (.err e p):=by
 intro S pre o h hb
 obtain⟨S1,h1,h2,h3,h4,h5⟩:=zaX h hb
 show run ts S=_
 rw[h1];exact ih S1 pre o h4
theorem zgh {d:Nat} {ts:List Tok} (hb:zX d ts=false):MSq d ts (.ok [] ts):=by
 intro S pre o h
 refine⟨hb,S,[],rfl,rfl,?_,List.prefix_refl _,by simp[Z7]⟩
 simpa using h
theorem zge {d:Nat} {ts:List Tok} {t:Term} {rest:List Tok} {s:Seq} {rest':List Tok} (hb:zX d ts=true) (iht:MTm d ts (.ok t rest)) (ihs:MSq d rest (.ok s rest')):MSq d ts (.ok (t::s) rest'):=by
 intro S pre o h
 obtain⟨S1,k,h1,h2,h3,h4,h5⟩:=iht S pre o h hb
 obtain⟨hb',S2,ks,g1,g2,g3,g4,g5⟩:=ihs S1 pre _ h3
 refine⟨hb',S2,k::ks,by rw[h1,g1],by rw[g2,h2],by simpa using g3,h4.trans g4,?_⟩
 simp only[Z7]
 exact⟨k,ks,rfl,Zw.mono g4 t h5,g5⟩
theorem zgf {d:Nat} {ts:List Tok} {e p:Nat} (hb:zX d ts=true) (iht:MTm d ts (.err e p)):MSq d ts (.err e p):=fun S pre o h=>iht S pre o h hb
theorem zgg {d:Nat} {ts:List Tok} {t:Term} {rest:List Tok} {e p:Nat} (hb:zX d ts=true) (iht:MTm d ts (.ok t rest)) (ihs:MSq d rest (.err e p)):MSq d ts (.err e p):=by
 intro S pre o h
 obtain⟨S1,k,h1,h2,h3,h4,h5⟩:=iht S pre o h hb
 show run ts S=_
 rw[h1];exact ihs S1 pre _ h3
theorem zg7 {d:Nat} {ts:List Tok} {s:Seq} {rest:List Tok} (hk:(hd rest).kind≠.sign 47) (ihs:MSq d ts (.ok s rest)):MCh d ts (.ok [s] rest):=by
 intro S pre o h ho
 obtain⟨hb,S1,ks,h1,h2,h3,h4,h5⟩:=ihs S pre o h
 refine⟨hb,hk,S1,[],ks,[],s,h1,h2,?_,h4,rfl,by simp[zZ],h5⟩
 rw[ho] at h3;simpa using h3
theorem zcM {d:Nat} {ts:List Tok} {S:ST} {pre:List OP} {o:OP} (h:QG d ts S pre o) (hk:(hd ts).kind = .sign 47) :
  run ts S=run ts.tail { S.slash with may:=false }∧QG d ts.tail { S.slash with may:=false } pre ⟨o.seqs++[S.xs.length],[],o.sign⟩:=by
 obtain⟨t,r,rfl,hok,hr⟩:=h.wf.form
 simp only[hd,List.headD_cons] at hk
 obtain⟨h1,h2,h3,h4⟩:=VT h.os
 refine⟨?_,⟨hr (by rw[hk];rfl),h1,h.len,by simp only[h3];exact h.rs,h.deep,by simp only[h4];exact h.sign,by simp⟩⟩
 rw[JW hk h.rs];simp[ST.signs,h.sign]
theorem zg9 {d:Nat} {ts:List Tok} {s:Seq} {rest:List Tok} {c:Z5} {rest':List Tok} (hk:(hd rest).kind = .sign 47) (ihs:MSq d ts (.ok s rest)) (ihc:MCh d rest.tail (.ok c rest')):MCh d ts (.ok (s::c) rest'):=by
 intro S pre o h ho
 obtain⟨_,S1,ks,h1,h2,h3,h4,h5⟩:=ihs S pre o h
 obtain⟨g1,g2⟩:=zcM h3 hk
 obtain⟨_,f2,f3,_⟩:=VT h3.os
 obtain⟨hb,h47,S2,qs,ks2,c0,s2,e1,er,e2,e3,rfl,e5,e6⟩:=ihc _ _ _ g2 rfl
 have e3':S1.xs++[⟨5,[],[],0,o.terms++ks⟩] <+: S2.xs:=by
  have:({ S1.slash with may:=false }:ST).xs=S1.xs++[⟨5,[],[],0,o.terms++ks⟩]:=f2
  rw[← this];exact e3
 rw[ho,List.nil_append] at e3'
 have hS1:S1.xs <+: S2.xs:=(List.prefix_append _ _).trans e3'
 refine⟨hb,h47,S2,S1.xs.length::qs,ks2,s::c0,s2,by rw[h1,g1,e1],?_,?_,h4.trans hS1,rfl,?_,e6⟩
 ·rw[er];show S1.slash.rs=_;rw[f3,h2]
 ·simpa using e2
 ·simp only[zZ]
  exact⟨S1.xs.length,qs,ks,rfl,YF e3' YA,Z7.mono hS1 s h5,e5⟩
theorem zg6 {d:Nat} {ts:List Tok} {e p:Nat} (ihs:MSq d ts (.err e p)):MCh d ts (.err e p):=fun S pre o h _=>ihs S pre o h
theorem zg8 {d:Nat} {ts:List Tok} {s:Seq} {rest:List Tok} {e p:Nat} (hk:(hd rest).kind = .sign 47) (ihs:MSq d ts (.ok s rest)) (ihc:MCh d rest.tail (.err e p)):MCh d ts (.err e p):=by
 intro S pre o h ho
 obtain⟨_,S1,ks,h1,h2,h3,h4,h5⟩:=ihs S pre o h
 obtain⟨g1,g2⟩:=zcM h3 hk
 show run ts S=_
 rw[h1,g1];exact ihc _ _ _ g2 rfl
theorem zbd {d:Nat} {ts:List Tok} {r:Res Z5} (h:Z8 d ts r):MCh d ts r:=by
 refine Z8.rec (motive_1:=fun d ts r _=>MPc d ts r) (motive_2:=fun d ts r _=>MTm d ts r) (motive_3:=fun d ts r _=>MSq d ts r) (motive_4:=fun d ts r _=>MCh d ts r) ?_ ?_ ?_ ?_ ?_ ?_ ?_ ?_ ?_ ?_ ?_ ?_ ?_ ?_ ?_ ?_ h
 ·intro d ts p hp;exact zgd hp
 ·intro d ts hn hk;exact zg5 hn hk
 ·intro ts hk;exact zga hk
 ·intro d ts c rest hk hd _ hcl ih;exact zgb hk hd hcl ih
 ·intro d ts c rest hk hd _ hcl ih;exact zgk hk hd hcl ih
 ·intro d ts e p hk hd _ ih;exact zgc hk hd ih
 ·intro d ts p rest _ ih;exact zgj ih
 ·intro d ts e p _ ih;exact zgi ih
 ·intro d ts hb;exact zgh hb
 ·intro d ts t rest s rest' hb _ _ iht ihs;exact zge hb iht ihs
 ·intro d ts e p hb _ iht;exact zgf hb iht
 ·intro d ts t rest e p hb _ _ iht ihs;exact zgg hb iht ihs
 ·intro d ts s rest _ hk ihs;exact zg7 hk ihs
 ·intro d ts s rest c rest' _ hk _ ihs ihc;exact zg9 hk ihs ihc
 ·intro d ts e p _ ihs;exact zg6 ihs
 ·intro d ts s rest e p _ hk _ ihs ihc;exact zg8 hk ihs ihc
def zV (xs:List RE):List (z7 × Nat)→List ze→Prop
 | [],[]=>True
 | x::rs,r::g=>x.1=r.name∧zw xs x.2 (.group r.choice)∧zV xs rs g
 | _,_=>False
theorem zV.mono {xs ys:List RE} (h:xs <+: ys):∀ (rs:List (z7 × Nat)) (g:List ze),zV xs rs g→zV ys rs g
 | [],[]=>id
 | x::rs,r::g=>fun ⟨h1,h2,h3⟩=>⟨h1,zw.mono h _ h2,zV.mono h rs g h3⟩
 | [],_::_=>fun h=>h.elim
 | _::_,[]=>fun h=>h.elim
theorem zV.snoc {xs:List RE}:∀ (rs:List (z7 × Nat)) (g:List ze) {b:z7} {k:Nat} {r:ze},zV xs rs g→b=r.name→zw xs k (.group r.choice)→zV xs (rs++[(b,k)]) (g++[r])
 | [],[],_,_,_=>fun _ h1 h2=>⟨h1,h2,trivial⟩
 | x::rs,r0::g,_,_,_=>fun ⟨h0,h1,h2⟩ h3 h4=>⟨h0,h1,zV.snoc rs g h2 h3 h4⟩
 | [],_::_,_,_,_=>fun h=>h.elim
 | _::_,[],_,_,_=>fun h=>h.elim
def S0:ST:=⟨[],[],[],[],false⟩
structure Btw (n:Nat) (ts:List Tok) (S:ST) (g0:List ze):Prop where
 at0:∃ o,QG 0 ts S [] o∧∃ rr nm c0 s gg,g0=gg++[⟨nm,c0++[s]⟩]∧S.rs=rr++[(nm,0)]∧rr.length+1=n∧zV S.xs rr gg∧zZ S.xs o.seqs c0∧Z7 S.xs o.terms s
 none:zX 0 ts=false
 slash:(hd ts).kind≠.sign 47
def Start (n:Nat) (ts:List Tok) (S:ST) (g0:List ze):Prop:=(n=0∧S=S0∧g0=[]∧Wf ts)∨Btw n ts S g0
theorem Start.wf {n:Nat} {ts:List Tok} {S:ST} {g0:List ze} (h:Start n ts S g0):Wf ts:=by
 rcases h with ⟨_,_,_,h⟩ | h
 ·exact h
 ·obtain⟨o,h1,_⟩:=h.at0;exact h1.wf
theorem zap {n:Nat} {ts:List Tok} {S:ST} {g0:List ze} (h:Start n ts S g0):S.rule.os=[]∧S.rule.rs.length=n∧S.rule.sign=[]∧zV S.rule.xs S.rule.rs g0∧S.sign=[]∧S.os.length≤1∧S.rs.length=n:=by
 rcases h with ⟨rfl,rfl,rfl,_⟩ | h
 ·simp[ST.rule,S0,zV]
 ·obtain⟨o,h1,rr,nm,c0,s,gg,rfl,h3,h4,h5,h6,h7⟩:=h.at0
  have hos:S.os=[]++[o]:=h1.os
  obtain⟨f1,f2,f3,f4⟩:=KG hos
  have hrs:S.rs≠[]:=h1.rs
  have e:S.rule = { S.closed with rs:=rr++[(nm,S.xs.length+1)] }:=by
   unfold ST.rule;rw[if_neg hrs,h3];simp[List.getLastD_concat]
  have hx:S.xs <+: S.closed.xs:=by rw[f2,List.append_assoc];exact List.prefix_append _ _
  rw[e]
  refine⟨f1,by simp[h4],by simp only[f4];exact h1.sign,?_,h1.sign,by rw[hos];simp,by rw[h3];simp[h4]⟩
  refine zV.snoc rr gg (zV.mono hx _ _ h5) rfl ?_
  simp only[zw]
  refine⟨o.seqs++[S.xs.length],by rw[f2];simp,zZ.snoc c0 (zZ.mono hx c0 h6) (ks:=o.terms) (by rw[f2];simp) (Z7.mono hx s h7)⟩
theorem zb2 {n:Nat} {t m:Tok} {r:List Tok} {S:ST} {g0:List ze} (h:Start n (t::m::r) S g0) (hk:t.kind = .name) (ha:m.kind = .arrow) (hn:n<20) :
  run (t::m::r) S=run r (S.begin t.text)∧QG 0 r (S.begin t.text) [] ⟨[],[],[]⟩∧(S.begin t.text).rs=S.rule.rs++[(t.text,0)]∧zV (S.begin t.text).xs S.rule.rs g0∧S.rule.rs.length=n:=by
 obtain⟨h1,h2,h3,h4,h5,h6,h7⟩:=zap h
 have hw:=h.wf
 have hw1:Wf (m::r):=by
  have:=hw.2;rw[if_neg (by simp[hk,TK.last])] at this;exact this
 have hw2:Wf r:=by
  have:=hw1.2;rw[if_neg (by simp[ha,TK.last])] at this;exact this
 refine⟨?_,⟨hw2,by simp[ST.begin,h1],rfl,by simp[ST.begin],by omega,by simpa [ST.begin] using h3,by simp[ST.begin]⟩,rfl,h4,h2⟩
 rw[UZ hk (by rw[ha];rfl),if_neg (by rintro (h' | h');exact h' h5;omega),if_neg (by omega)]
theorem zir {n:Nat} {t m:Tok} {r:List Tok} {S:ST} {g0:List ze} {c:Z5} {rest:List Tok} (h:Start n (t::m::r) S g0) (hk:t.kind = .name) (ha:m.kind = .arrow) (hn:n<20) (hc:Z8 0 r (.ok c rest)) :
  ∃ S',run (t::m::r) S=run rest S'∧Btw (n+1) rest S' (g0++[⟨t.text,c⟩]):=by
 obtain⟨h1,h2,h3,h4,h5⟩:=zb2 h hk ha hn
 obtain⟨hb,h47,S',qs,ks,c0,s,e1,er,e2,e3,rfl,e5,e6⟩:=zbd hc _ _ _ h2 rfl
 refine⟨S',by rw[h1,e1],⟨⟨_,e2,S.rule.rs,t.text,c0,s,g0,rfl,by rw[er,h3],by rw[h5],zV.mono e3 _ _ h4,?_,e6⟩,hb,h47⟩⟩
 simpa using e5
theorem zis {n:Nat} {t m:Tok} {r:List Tok} {S:ST} {g0:List ze} {e p:Nat} (h:Start n (t::m::r) S g0) (hk:t.kind = .name) (ha:m.kind = .arrow) (hn:n<20) (hc:Z8 0 r (.err e p)):run (t::m::r) S = .error (e,p):=by
 obtain⟨h1,h2,_⟩:=zb2 h hk ha hn
 rw[h1];exact zbd hc _ _ _ h2 rfl
theorem zgM {n:Nat} {ts:List Tok} {S:ST} {g0:List ze} (h:Start n ts S g0) (hk:(hd ts).kind≠.name) (hf:n≠0→(hd ts).kind≠.fin):run ts S = .error (2,(hd ts).place):=by
 obtain⟨t,r,rfl,hok,hr⟩:=h.wf.form
 simp only[hd,List.headD_cons] at hk hf ⊢
 rcases h with ⟨rfl,rfl,rfl,_⟩ | h
 ·cases hq:t.kind with
  | name=>exact absurd hq hk
  | bad=>rw[VQ hq]
  | arrow=>rw[KV hq]
  | fin=>rw[VR hq];simp[S0]
  | sign c=>rw[run.eq_def];simp[hq,S0]
  | lit=>rw[run.eq_def];simp[hq,S0]
  | cls=>rw[run.eq_def];simp[hq,S0]
 ·have hb:=h.none
  have h47:=h.slash
  obtain⟨o,h1,rr,nm,c0,s,gg,_,h3,h4,_⟩:=h.at0
  have hmay:=h1.may
  have hos:S.os=[]++[o]:=h1.os
  have hol:¬ 2≤S.os.length:=by rw[hos];simp
  simp only[zX,hd,List.headD_cons] at hb
  simp only[hd,List.headD_cons,Kz] at h47 hmay
  cases hq:t.kind with
  | name=>exact absurd hq hk
  | bad=>rw[VQ hq]
  | arrow=>rw[KV hq]
  | fin=>exact absurd hq (hf (by omega))
  | lit=>simp[hq] at hb
  | cls=>simp[hq] at hb
  | sign c=>
   simp only[hq] at hb h47 hmay
   rw[JW hq h1.rs]
   rcases VS (hok c hq) with rfl | rfl | rfl | rfl | rfl | rfl | rfl | rfl | rfl<;>simp[ST.signs,hol] at hb h47 hmay ⊢<;>simp[hmay]
theorem zgL {n:Nat} {ts:List Tok} {S:ST} {g0:List ze} (h:Start n ts S g0) (hk:(hd ts).kind = .name) (ha:(hd ts.tail).kind≠.arrow):run ts S = .error (2,(hd ts.tail).place):=by
 obtain⟨t,r,rfl,hok,hr⟩:=h.wf.form
 simp only[hd,List.headD_cons] at hk
 obtain⟨m,r',rfl,_⟩:=(hr (by rw[hk];rfl)).form
 simp only[hd,List.headD_cons,List.tail_cons] at ha ⊢
 have ha':m.kind.isArrow=false:=by
  cases hm:m.kind with
  | arrow=>exact absurd hm ha
  | _=>rfl
 rcases h with ⟨rfl,rfl,rfl,_⟩ | h
 ·rw[run.eq_def];simp[hk,ha',S0]
 ·have hb:=h.none
  simp[zX,hd,hk,ha'] at hb
theorem zgu {ts:List Tok} {S:ST} {g0:List ze} (h:Start 20 ts S g0) (hk:(hd ts).kind = .name) (ha:(hd ts.tail).kind = .arrow):run ts S = .error (4,(hd ts.tail).place):=by
 obtain⟨t,r,rfl,hok,hr⟩:=h.wf.form
 simp only[hd,List.headD_cons] at hk
 obtain⟨m,r',rfl,_⟩:=(hr (by rw[hk];rfl)).form
 simp only[hd,List.headD_cons,List.tail_cons] at ha ⊢
 obtain⟨h1,h2,h3,h4,h5,h6,h7⟩:=zap h
 rw[UZ hk (by rw[ha];rfl),if_neg (by rintro (h' | h');exact h' h5;omega),if_pos (by omega)]
theorem UY {n:Nat} {ts:List Tok} {r:Res ze} (hp:ZV n ts r) {S:ST} {g0:List ze} (h:Start n ts S g0) (hn:n≤20) (hf:n≠0→(hd ts).kind≠.fin) :
  match r with
  | .err e p=>run ts S = .error (e,p)
  | .ok ru rest=>∃ S',run ts S=run rest S'∧Btw (n+1) rest S' (g0++[ru]):=by
 cases hp with
 | noName hk=>exact zgM h hk hf
 | many hk ha=>exact zgu h hk ha
 | noArrow hk ha=>exact zgL h hk ha
 | ok hk ha hn' hc=>
  obtain⟨t,r,rfl,hok,hr⟩:=h.wf.form
  simp only[hd,List.headD_cons] at hk
  obtain⟨m,r',rfl,_⟩:=(hr (by rw[hk];rfl)).form
  exact zir h hk ha (by omega) hc
 | err hk ha hn' hc=>
  obtain⟨t,r,rfl,hok,hr⟩:=h.wf.form
  simp only[hd,List.headD_cons] at hk
  obtain⟨m,r',rfl,_⟩:=(hr (by rw[hk];rfl)).form
  exact zis h hk ha (by omega) hc
theorem zbE {n:Nat} {ts:List Tok} {res:Except (Nat × Nat) (List ze)} (hp:ZU n ts res):∀ (S:ST) (g0:List ze),Start n ts S g0→n≤20→(n≠0→(hd ts).kind≠.fin) →
  match res with
  | .error x=>run ts S = .error x
  | .ok g=>∃ S',run ts S = .ok S'∧zV S'.xs S'.rs (g0++g):=by
 induction hp with
 | last hr hk=>
  intro S g0 h hn hf
  obtain⟨S',h1,h2⟩:=UY hr h hn hf
  obtain⟨f1,f2,f3,f4,f5,f6,f7⟩:=zap (.inr h2)
  refine⟨S'.rule,?_,f4⟩
  obtain⟨o,hq,_⟩:=h2.at0
  obtain⟨t,r,rfl,_⟩:=hq.wf.form
  have hk':t.kind = .fin:=hk
  rw[h1,VR hk',if_neg]
  rintro (h' | h' | h')
  ·exact hq.rs h'
  ·exact h' f5
  ·omega
 | more hr hk _ ih=>
  intro S g0 h hn hf
  rename_i n' _ _ _ _ _
  obtain⟨S',h1,h2⟩:=UY hr h hn hf
  have hn1:n'+1≤20:=by
   have hne:n'≠20:=by
    cases hr with
    | ok _ _ h' _=>exact h'
   omega
  obtain⟨S2,h3,h4⟩:=ih S' _ (.inr h2) hn1 (fun _=>hk)
  exact⟨S2,by rw[h1,h3],by simpa using h4⟩
 | err hr=>
  intro S g0 h hn hf
  exact UY hr h hn hf
 | later hr hk _ ih=>
  intro S g0 h hn hf
  rename_i n' _ _ _ _ _
  obtain⟨S',h1,h2⟩:=UY hr h hn hf
  have hn1:n'+1≤20:=by
   have hne:n'≠20:=by
    cases hr with
    | ok _ _ h' _=>exact h'
   omega
  show run _ S=_
  rw[h1]
  exact ih S' _ (.inr h2) hn1 (fun _=>hk)
structure Bd (c:Nat) (S:ST):Prop where
 xs:S.xs.length≤4 * c
 os:S.os.length≤7
 each:∀ o ∈ S.os,o.terms.length≤c∧o.seqs.length≤c
 rs:S.rs.length≤20
theorem Bd.zero:Bd 0 S0:=⟨by simp[S0],by simp[S0],by simp[S0],by simp[S0]⟩
theorem Bd.mono {c c':Nat} {S:ST} (h:Bd c S) (hc:c≤c'):Bd c' S:=
 ⟨by have:=h.xs;omega,h.os,fun o ho=>by have:=h.each o ho;omega,h.rs⟩
theorem JX {S:ST} (h:S.os≠[]):∃ pre o,S.os=pre++[o]∧S.top=o:=by
 refine⟨S.os.dropLast,S.os.getLast h,(List.dropLast_concat_getLast h).symm,?_⟩
 unfold ST.top
 conv=>lhs;rw[← List.dropLast_concat_getLast h]
 rw[List.getLastD_concat]
theorem Bd.top {c:Nat} {S:ST} (h:Bd c S) (hne:S.os≠[]):S.top.terms.length≤c∧S.top.seqs.length≤c:=by
 obtain⟨pre,o,h1,h2⟩:=JX hne
 rw[h2];exact h.each o (by rw[h1];simp)
theorem Bd.term {c n:Nat} {T:ST} {j:Nat} {sg:z7} (hx:T.xs.length+1≤4 * n) (ho:T.os.length≤7) (hne:T.os≠[]) (he:∀ o ∈ T.os,o.terms.length≤c∧o.seqs.length≤c) (hr:T.rs.length≤20) (hn:c+1≤n):Bd n (T.term j sg):=by
 obtain⟨pre,o,h1,_⟩:=JX hne
 refine⟨?_,?_,?_,by rw[VW];exact hr⟩
 ·rw[VX];split
  ·omega
  ·simp;omega
 ·rw[Kk _ _ _ h1];rw[h1] at ho;simpa using ho
 ·rw[Kk _ _ _ h1]
  intro x hx'
  rcases List.mem_append.1 hx' with hx' | hx'
  ·have:=he x (by rw[h1];simp[hx']);omega
  ·simp only[List.mem_singleton] at hx'
   subst hx'
   have:=he o (by rw[h1];simp)
   simp;omega
theorem Bd.lay {c:Nat} {S:ST} (h:Bd c S) (hne:S.os≠[]) (e:RE):Bd (c+1) (S.lay e):=by
 have hx:=h.xs
 exact Bd.term (c:=c) (by simp[ST.add];omega) h.os hne h.each h.rs (Nat.le_refl _)
theorem Bd.slash {c:Nat} {S:ST} (h:Bd c S) (hne:S.os≠[]):Bd (c+1) { S.slash with may:=false }:=by
 obtain⟨pre,o,h1,_⟩:=JX hne
 obtain⟨f1,f2,f3,f4⟩:=VT h1
 have hx:=h.xs
 have ho:=h.os
 refine⟨by simp only[f2];simp;omega,by simp only[f1];rw[h1] at ho;simpa using ho,?_,by simp only[f3];exact h.rs⟩
 simp only[f1]
 intro x hx'
 rcases List.mem_append.1 hx' with hx' | hx'
 ·have:=h.each x (by rw[h1];simp[hx']);omega
 ·simp only[List.mem_singleton] at hx'
  subst hx'
  have:=h.each o (by rw[h1];simp)
  simp;omega
theorem Bd.behind {c:Nat} {S:ST} (h:Bd c S) (hne:S.os≠[]) (b:z7):Bd (c+1) (S.behind b):=by
 obtain⟨pre,o,h1,h2⟩:=JX hne
 have hx:=h.xs
 have ho:=h.os
 unfold ST.behind
 simp only[]
 split
 ·exact⟨by simp;omega,ho,fun x hx'=>by have:=h.each x hx';omega,h.rs⟩
 ·refine⟨by simp[ST.setTop,ST.add];omega,?_,?_,by simp[ST.setTop,ST.add];exact h.rs⟩
  ·simp[ST.setTop,ST.add,h1] at ho ⊢;exact ho
  ·simp only[ST.setTop,ST.add,h1,List.dropLast_concat]
   intro x hx'
   rcases List.mem_append.1 hx' with hx' | hx'
   ·have:=h.each x (by rw[h1];simp[hx']);omega
   ·simp only[List.mem_singleton] at hx'
    subst hx'
    have:=h.each o (by rw[h1];simp)
    rw[h2];simp;omega
theorem Bd.opened {c:Nat} {S:ST} (h:Bd c S) (hd:S.os.length≤6) (sg:z7):Bd (c+1) { S with os:=S.os++[⟨[],[],sg⟩],sign:=[],may:=false }:=by
 have hx:=h.xs
 refine⟨by simp only[];omega,by simp;omega,?_,h.rs⟩
 intro x hx'
 rcases List.mem_append.1 hx' with hx' | hx'
 ·have:=h.each x hx';omega
 ·simp only[List.mem_singleton] at hx'
  subst hx';simp
theorem Bd.closed {c:Nat} {S:ST} (h:Bd c S) (hl : 2≤S.os.length) (j:Nat) (sg:z7):Bd (c+1) (S.closed.term j sg):=by
 have hne:S.os≠[]:=by intro e;rw[e] at hl;simp at hl
 obtain⟨pre,o,h1,_⟩:=JX hne
 obtain⟨f1,f2,f3,f4⟩:=KG h1
 have hx:=h.xs
 have ho:=h.os
 rw[h1] at hl ho
 simp at hl ho
 refine Bd.term (c:=c) (by rw[f2];simp;omega) (by rw[f1];omega) (by rw[f1];intro e;rw[e] at hl;simp at hl) ?_ (by rw[f3];exact h.rs) (Nat.le_refl _)
 rw[f1]
 intro x hx'
 exact h.each x (by rw[h1];simp[hx'])
theorem Bd.begin {c:Nat} {S:ST} (h:Bd c S) (hl:S.os.length≤1) (hr:S.rs.length<20) (b:z7) (hor:S.rs≠[]→S.os≠[]):Bd (c+2) (S.begin b):=by
 have hx:=h.xs
 by_cases hrs:S.rs=[]
 ·have e:S.rule=S:=by unfold ST.rule;rw[if_pos hrs]
  unfold ST.begin;rw[e]
  refine⟨by simp only[];omega,by simp;omega,?_,by simp;omega⟩
  intro x hx'
  rcases List.mem_append.1 hx' with hx' | hx'
  ·have:=h.each x hx';omega
  ·simp only[List.mem_singleton] at hx'
   subst hx';simp
 ·obtain⟨pre,o,h1,_⟩:=JX (hor hrs)
  obtain⟨f1,f2,f3,f4⟩:=KG h1
  have e1:S.rule.xs=S.closed.xs:=by unfold ST.rule;rw[if_neg hrs]
  have e2:S.rule.os=S.closed.os:=by unfold ST.rule;rw[if_neg hrs]
  have e3:S.rule.rs.length=S.rs.length:=by
   unfold ST.rule;rw[if_neg hrs];simp
   have : 0<S.rs.length:=List.length_pos_iff.2 hrs
   omega
  have hpre:pre=[]:=by
   rw[h1] at hl;simp at hl;exact hl
  unfold ST.begin
  refine⟨by simp only[e1,f2];simp;omega,by simp only[e2,f1,hpre];simp,?_,by simp only[List.length_append,e3];simp;omega⟩
  simp only[e2,f1,hpre]
  intro x hx'
  simp at hx'
  subst hx';simp
def YX (b:z7):Prop:=b=[]∨b=[38]∨b=[33]
structure Q5 (S:ST):Prop where
 sg:YX S.sign
 osg:∀ o ∈ S.os,YX o.sign
 may:S.may=true→∃ tl k x,S.top.terms=tl++[k]∧S.xs[k]? = some x∧((x.kind=10∨x.kind=11)→x.parts≠[])
 ne:S.rs≠[]→S.os≠[]
theorem Q5.zero:Q5 S0:=⟨.inl rfl,by simp[S0],by simp[S0],by simp[S0]⟩
theorem Q5.term {T:ST} {j:Nat} {sg:z7} {x:RE} (hne:T.os≠[]) (hs:YX T.sign) (ho:∀ o ∈ T.os,YX o.sign) (hx:T.xs[j]? = some x) (hk:(x.kind=10∨x.kind=11)→x.parts≠[]):Q5 (T.term j sg):=by
 obtain⟨pre,o,h1,_⟩:=JX hne
 have hos:=Kk T j sg h1
 have htop:(T.term j sg).top = { o with terms:=o.terms++[if sg=[] then j else T.xs.length] }:=by unfold ST.top;rw[hos,List.getLastD_concat]
 refine⟨by rw[zaz];exact hs,?_,?_,by rw[hos];simp⟩
 ·rw[hos]
  intro y hy
  rcases List.mem_append.1 hy with hy | hy
  ·exact ho y (by rw[h1];simp[hy])
  ·simp only[List.mem_singleton] at hy
   subst hy
   exact ho o (by rw[h1];simp)
 ·intro _
  rw[htop,VX]
  by_cases hsg:sg=[]
  ·simp only[hsg,if_true]
   exact⟨o.terms,j,x,rfl,hx,hk⟩
  ·simp only[hsg,if_false]
   exact⟨o.terms,T.xs.length,zy (zE sg) j,rfl,YA,by simp[zy]⟩
theorem Q5.lay {S:ST} (h:Q5 S) (hne:S.os≠[]) {e:RE} (he:e.kind≠10∧e.kind≠11):Q5 (S.lay e):=
 Q5.term (x:=e) hne (.inl rfl) h.osg (by simp[ST.add]) (by rintro (h' | h');exact absurd h' he.1;exact absurd h' he.2)
theorem qT (t:Tok):(Zb t).kind≠10∧(Zb t).kind≠11:=by
 unfold Zb;split<;>simp
theorem Q5.begin {S:ST} (h:Q5 S) (b:z7) (hs:S.sign=[]):Q5 (S.begin b):=by
 have hr:YX S.rule.sign∧∀ o ∈ S.rule.os,YX o.sign:=by
  by_cases hrs:S.rs=[]
  ·have e:S.rule=S:=by unfold ST.rule;rw[if_pos hrs]
   rw[e];exact⟨h.sg,h.osg⟩
  ·obtain⟨pre,o,h1,_⟩:=JX (h.ne hrs)
   obtain⟨f1,f2,f3,f4⟩:=KG h1
   have e:S.rule.sign=S.closed.sign∧S.rule.os=S.closed.os:=by unfold ST.rule;rw[if_neg hrs];exact⟨rfl,rfl⟩
   rw[e.1,e.2,f1,f4]
   exact⟨h.sg,fun y hy=>h.osg y (by rw[h1];simp[hy])⟩
 refine⟨hr.1,?_,by simp[ST.begin],by simp[ST.begin]⟩
 intro y hy
 rcases List.mem_append.1 hy with hy | hy
 ·exact hr.2 y hy
 ·simp only[List.mem_singleton] at hy
  subst hy;exact .inl rfl
theorem qH {S:ST} (h:Q5 S) (hne:S.os≠[]) (b:z7):Q5 (S.behind b)∧(S.behind b).os≠[]∧(S.behind b).rs=S.rs:=by
 obtain⟨pre,o,h1,h2⟩:=JX hne
 unfold ST.behind
 simp only[]
 split
 ·exact⟨⟨h.sg,h.osg,by simp,fun _=>hne⟩,hne,rfl⟩
 ·refine⟨⟨h.sg,?_,by simp,by simp[ST.setTop]⟩,by simp[ST.setTop],by simp[ST.setTop,ST.add]⟩
  simp only[ST.setTop,ST.add,h1,List.dropLast_concat]
  intro y hy
  rcases List.mem_append.1 hy with hy | hy
  ·exact h.osg y (by rw[h1];simp[hy])
  ·simp only[List.mem_singleton] at hy
   subst hy
   rw[h2]
   exact h.osg o (by rw[h1];simp)
theorem ziL {S S':ST} {c:UInt8} {n:Nat} (h:Q5 S) (hb:Bd n S) (hne:S.os≠[]) (hrs:S.rs≠[]) (hc:Qf c=true) (hs:S.signs c = .ok S'):Q5 S'∧Bd (n+1) S'∧S'.os≠[]∧S'.rs=S.rs:=by
 obtain⟨pre,o,h1,h2⟩:=JX hne
 rcases VS hc with rfl | rfl | rfl | rfl | rfl | rfl | rfl | rfl | rfl
 ·simp only[ST.signs] at hs
  by_cases hg:S.sign=[]
  ·simp[hg] at hs
   subst hs
   obtain⟨f1,f2,f3,f4⟩:=VT h1
   refine⟨⟨by simp only[f4];exact h.sg,?_,by simp,by simp only[f1];simp⟩,hb.slash hne,by simp only[f1];simp,by simp only[f3]⟩
   simp only[f1]
   intro y hy
   rcases List.mem_append.1 hy with hy | hy
   ·exact h.osg y (by rw[h1];simp[hy])
   ·simp only[List.mem_singleton] at hy
    subst hy
    exact h.osg o (by rw[h1];simp)
  ·simp[hg] at hs
 ·simp only[ST.signs] at hs
  by_cases hg:S.sign=[]
  ·simp[hg] at hs
   subst hs
   exact⟨⟨.inr (.inl rfl),h.osg,by simp,fun _=>hne⟩,⟨by have:=hb.xs;simp only[];omega,hb.os,fun x hx=>by have:=hb.each x hx;omega,hb.rs⟩,hne,rfl⟩
  ·simp[hg] at hs
 ·simp only[ST.signs] at hs
  by_cases hg:S.sign=[]
  ·simp[hg] at hs
   subst hs
   exact⟨⟨.inr (.inr rfl),h.osg,by simp,fun _=>hne⟩,⟨by have:=hb.xs;simp only[];omega,hb.os,fun x hx=>by have:=hb.each x hx;omega,hb.rs⟩,hne,rfl⟩
  ·simp[hg] at hs
 ·by_cases hm:S.may=true
  ·have e:S'=S.behind [63]:=by simp[ST.signs,hm] at hs;exact hs.symm
   subst e
   obtain⟨g1,g2,g3⟩:=qH h hne [63]
   exact⟨g1,hb.behind hne [63],g2,g3⟩
  ·simp[ST.signs,hm] at hs
 ·by_cases hm:S.may=true
  ·have e:S'=S.behind [42]:=by simp[ST.signs,hm] at hs;exact hs.symm
   subst e
   obtain⟨g1,g2,g3⟩:=qH h hne [42]
   exact⟨g1,hb.behind hne [42],g2,g3⟩
  ·simp[ST.signs,hm] at hs
 ·by_cases hm:S.may=true
  ·have e:S'=S.behind [43]:=by simp[ST.signs,hm] at hs;exact hs.symm
   subst e
   obtain⟨g1,g2,g3⟩:=qH h hne [43]
   exact⟨g1,hb.behind hne [43],g2,g3⟩
  ·simp[ST.signs,hm] at hs
 ·by_cases hd : 6<S.os.length
  ·simp[ST.signs,hd] at hs
  ·have e:S' = { S with os:=S.os++[⟨[],[],S.sign⟩],sign:=[],may:=false }:=by simp[ST.signs,hd] at hs;exact hs.symm
   subst e
   refine⟨⟨.inl rfl,?_,by simp,by simp⟩,hb.opened (by omega) _,by simp,rfl⟩
   intro y hy
   rcases List.mem_append.1 hy with hy | hy
   ·exact h.osg y hy
   ·simp only[List.mem_singleton] at hy
    subst hy;exact h.sg
 ·by_cases hd:S.sign=[]∧2≤S.os.length
  ·have e:S'=S.closed.term (S.xs.length+1) S.top.sign:=by simp[ST.signs,hd] at hs;exact hs.symm
   subst e
   obtain⟨f1,f2,f3,f4⟩:=KG h1
   have hp:pre≠[]:=by
    intro e
    have:=hd.2
    rw[h1,e] at this;simp at this
   refine⟨Q5.term (x:=⟨6,[],[],0,o.seqs++[S.xs.length]⟩) (by rw[f1];exact hp) (by rw[f4];exact h.sg) (by rw[f1];exact fun y hy=>h.osg y (by rw[h1];simp[hy])) (by rw[f2];simp) (by simp),hb.closed hd.2 _ _,?_,by rw[VW,f3]⟩
   obtain⟨pre',o',h1',_⟩:=JX (S:=S.closed) (by rw[f1];exact hp)
   rw[Kk _ _ _ h1'];simp
  ·simp[ST.signs,hd] at hs
 ·have e:S'=S.lay ⟨3,[],[],0,[]⟩:=by simp[ST.signs] at hs;exact hs.symm
  subst e
  refine⟨h.lay hne (by simp),hb.lay hne _,?_,?_⟩
  ·unfold ST.lay
   rw[Kk (({ S with sign:=[] }:ST).add ⟨3,[],[],0,[]⟩) _ _ (pre:=pre) (o:=o) h1];simp
  ·unfold ST.lay;rw[VW];rfl
theorem zcK {S:ST} {c:UInt8} {er:Nat} (h:S.signs c = .error er):er=2∨er=3:=by
 unfold ST.signs at h
 repeat' split at h
 all_goals first | (cases h;simp;done) | cases h
end Thk
namespace Go.Proofs.YtiganlkabilblaaGreatDoor
open Go.RowKit
attribute [local go_sem ↓] Go.wp_at_zero Go.wp_at_succ
def U8 (w:World) (B rb:Nat) (S:Thk.ST) (c:UInt8) (e':Ending) (w':World):Prop:=
 match S.signs c with
 | .error er=>Va w B er e' w'
 | .ok S'=>QS w B rb S' (.int .i64 0) e' w'
theorem UP {b:Thk.z7} (h:Thk.YX b) (hne:b≠[]):okA b:=by
 rcases h with h | h | h
 ·exact absurd h hne
 ·exact .inl h
 ·exact .inr h
theorem VJ {b:Thk.z7} (h:Thk.YX b):b=[]∨okA b:=by
 rcases h with h | h | h
 ·exact .inl h
 ·exact .inr (.inl h)
 ·exact .inr (.inr h)
theorem zia (w:World) (B rb:Nat) (M:MV) (lab:Nat→Nat) (h:Mem w B rb M lab (· = 0)) (hok:Thk.Q5 M.st) (n:Nat) (hb:Thk.Bd n M.st) (hn:n≤2100) (hne:M.os≠[]) (c:UInt8) (hc:Thk.Qf c=true) :
  Calls Tryz.prog 100 #[.pointer (some ⟨rb,0,none⟩),.string ⟨#[c]⟩] w fun e' w'=>U8 w B rb M.st c e' w':=by
 obtain⟨mr,m,ho⟩:∃ mr m,M.os=mr++[m]:=⟨M.os.dropLast,M.os.getLast hne,(List.dropLast_concat_getLast hne).symm⟩
 have hxl:M.xs.length≤8400:=by have:=hb.xs;simp[MV.st] at this;omega
 have hol:M.os.length≤7:=by have:=hb.os;simpa [MV.st] using this
 have hmr:mr.length≤6:=by rw[ho] at hol;simp at hol;exact hol
 have hmm:m.1.terms.length≤2100∧m.1.seqs.length≤2100:=by
  have:=hb.each m.1 (by simp[MV.st,ho]);omega
 have htop:M.st.top=m.1:=by simp[MV.st,Thk.ST.top,ho,List.getLastD_concat]
 have hsgn:M.st.sign=M.sign:=rfl
 have hmay:M.st.may=M.may:=rfl
 have hosl:M.st.os.length=M.os.length:=by simp[MV.st]
 have hxsl:M.st.xs.length=M.xs.length:=by simp[MV.st]
 have hs:=hok.sg
 rw[hsgn] at hs
 unfold U8
 rcases Thk.VS hc with rfl | rfl | rfl | rfl | rfl | rfl | rfl | rfl | rfl
 ·by_cases hg:M.sign=[]
  ·simp only[Thk.ST.signs,hsgn,hg,if_true]
   exact zii w B rb M lab h hg mr m ho (by omega) (by omega) (by omega)
  ·simp only[Thk.ST.signs,hsgn,hg,if_true,if_false]
   exact UW w B rb M lab h (UP hs hg) 47 (.inl rfl)
 ·by_cases hg:M.sign=[]
  ·simp[Thk.ST.signs,hsgn,hg]
   exact zcr w B rb M lab h hg 38 (.inl rfl)
  ·simp[Thk.ST.signs,hsgn,hg]
   exact UW w B rb M lab h (UP hs hg) 38 (.inr (.inl rfl))
 ·by_cases hg:M.sign=[]
  ·simp[Thk.ST.signs,hsgn,hg]
   exact zcr w B rb M lab h hg 33 (.inr rfl)
  ·simp[Thk.ST.signs,hsgn,hg]
   exact UW w B rb M lab h (UP hs hg) 33 (.inr (.inr (.inl rfl)))
 iterate 3
  by_cases hm:M.may=true
  ·simp[Thk.ST.signs,hmay,hm]
   obtain⟨tl,k,x,h1,h2,h3⟩:=hok.may hm
   rw[htop] at h1
   have hk:k<M.xs.length:=by rw[← hxsl];exact (List.getElem?_eq_some_iff.1 h2).1
   have hx:M.xs[k].1=x:=by
    have:M.st.xs[k]? = some M.xs[k].1:=by simp[MV.st,hk]
    rw[this] at h2;exact Option.some.inj h2
   have htl:tl.length≤2100:=by have:=hmm.1;rw[h1] at this;simp at this;omega
   exact zib w B rb M lab h hm _ (by simp) mr m ho tl k h1 hk (by rw[hx];exact h3) (by omega) (by omega) (by omega)
  ·simp[Thk.ST.signs,hmay,hm]
   exact zif w B rb M lab h (by simpa using hm) _ (by simp)
 ·by_cases hd : 6<M.os.length
  ·simp[Thk.ST.signs,hosl,hd]
   exact zid w B rb M lab h hd
  ·simp[Thk.ST.signs,hosl,hd]
   exact zih w B rb M lab h (by omega)
 ·by_cases hg:M.sign=[]
  ·by_cases hd : 2≤M.os.length
   ·simp[Thk.ST.signs,hsgn,hosl,hg,hd,htop,hxsl]
    have hmr0:mr≠[]:=by intro e;rw[ho,e] at hd;simp at hd
    obtain⟨mr',m0,ho'⟩:∃ mr' m0,mr=mr'++[m0]:=⟨mr.dropLast,mr.getLast hmr0,(List.dropLast_concat_getLast hmr0).symm⟩
    have hm0:m0.1.terms.length≤2100:=by
     have:=hb.each m0.1 (by simp[MV.st,ho,ho']);omega
    have hm':mr'.length≤6:=by rw[ho'] at hmr;simp at hmr;omega
    exact zic w B rb M lab h hg mr' m0 m (by rw[ho,ho']) (VJ (hok.osg m.1 (by simp[MV.st,ho]))) (by omega) (by omega) (by omega) (by omega)
   ·simp[Thk.ST.signs,hsgn,hosl,hg,hd]
    exact zig w B rb M lab h hg (by omega)
  ·simp[Thk.ST.signs,hsgn,hg]
   exact UW w B rb M lab h (UP hs hg) 41 (.inr (.inr (.inr rfl)))
 ·have e:M.st.signs 46 = .ok (M.st.lay ⟨3,[],[],0,[]⟩):=by simp[Thk.ST.signs]
  rw[e]
  have:=zie w B rb M lab h mr m ho (VJ hs) (by omega) (by omega) (by omega)
  simpa [Thk.ST.lay,hsgn,hxsl] using this
abbrev ZP:Value:=.agg #[.slice none 0 0,.slice none 0 0]
abbrev JZ:Obj:=.cells #[.slice none 0 0,.slice none 0 0] 85
theorem VN (w:World) (rb:Nat) (k p e k' p' e':Nat) (s s':ByteArray) (a a':Option Addr) (n c n' c':Nat) :
  Calls Tryz.prog 99 #[.pointer (some ⟨rb,0,none⟩),.agg #[.int .i64 k,.int .i64 p,.int .i64 e,.string s,.slice a n c],.agg #[.int .i64 k',.int .i64 p',.int .i64 e',.string s',.slice a' n' c']] w
   fun en w'=>en = .returned (.tuple #[ZP,.int .i64 2,.int .i64 (if k=1 then (p':Int) else p)])∧Below w.heap.size w w':=by
 by_cases hk:k=1
 ·subst hk
  go_enter Tryz.func99,Tryz.ntmps99
  go_wp2_with fail
  go_region
  all_goals go_wp2_with fail
  all_goals refine bodyPost_ret (v:=.tuple #[ZP,.int .i64 2,.int .i64 p']) (by simp[results,Tryz.results99,go_sem];done) rfl ⟨by simp,?_⟩
  all_goals exact ((((zc w _).alloc (by simp) _).alloc (by simp;omega) _)).drew
 ·have hk':¬ (k:Int)=1:=by omega
  go_enter Tryz.func99,Tryz.ntmps99
  go_wp2_with fail
  go_region
  all_goals go_wp2_with fail
  all_goals refine bodyPost_ret (v:=.tuple #[ZP,.int .i64 2,.int .i64 p]) (by simp[results,Tryz.results99,go_sem];done) rfl ⟨by simp[hk],?_⟩
  all_goals exact ((((zc w _).alloc (by simp) _).alloc (by simp;omega) _)).drew
end Go.Proofs.YtiganlkabilblaaGreatDoor
