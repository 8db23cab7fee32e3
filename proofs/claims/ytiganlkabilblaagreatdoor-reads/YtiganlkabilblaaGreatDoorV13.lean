import Derived.Test.YtiganlkabilblaaGreatDoorV12
set_option linter.all false
set_option maxHeartbeats 64000000
set_option maxRecDepth 100000
namespace Go.Proofs.YtiganlkabilblaaGreatDoor
open Go.RowKit
attribute [local go_sem ↓] Go.wp_at_zero Go.wp_at_succ
theorem z6 {p:Prop} (h:p):Hid p:=h
theorem zhp (w:World) (B rb:Nat) (M:MV) (lab:Nat→Nat) (h:Mem w B rb M lab (· = 0)) (mr:List (Thk.OP × Value × Value)) (m:Thk.OP × Value × Value) (ho:M.os=mr++[m]) (tl:List Nat) (k:Nat) (ht:m.1.terms=tl++[k]) (hk:k<M.xs.length)
  (hkind:M.xs[k].1.kind≠10∧M.xs[k].1.kind≠11) (sg:Thk.z7) (hsg:YW sg) (hb0:M.xs.length≤90000) (hb1:tl.length≤90000) (hb2:mr.length≤90000) :
  Calls Tryz.prog 142 #[.pointer (some ⟨rb,0,none⟩),.string ⟨sg.toArray⟩] w fun e' w'=>QS w B rb (M.st.behind sg) (.tuple #[]) e' w':=by
 have HKX:=hkind
 obtain⟨og,oc,hv,hgB,hol,hor,q0,q1,q2,qf⟩:=h.topAt ho
 have c2:w.cell? ⟨rb,2,none⟩=some M.vo:=z8 h.blk 2
 have c4:w.cell? ⟨rb,4,none⟩=some (.bool M.may):=z8 h.blk 4
 have f4:w.frozen? ⟨rb,4,none⟩=false:=zi h.blk 4
 rw[hv] at c2
 obtain⟨h1,h2,h3,h4⟩:=(h.topCells ho hv).2.2.2.2.2.2
 have h3':=h3
 unfold Ints at h3'
 rw[ht] at h3'
 obtain⟨tg,tc,hvt,_,htl⟩:=h3'.form (by simp)
 rw[hvt] at h3' q1
 have ck:w.cell? ⟨tg,tl.length,none⟩=some (.int .i64 k):=by
  rw[h3'.cellAt _ (by simp)];simp[Zq]
 obtain⟨xg,xc,hx,hxB,hxl,⟨xcs,hxb⟩,hxf,hxc⟩:=h.exAt (by omega)
 obtain⟨x0,x1,x2,x3,x4⟩:=hxc k hk
 have c0:w.cell? ⟨rb,0,none⟩=some M.vx:=z8 h.blk 0
 rw[hx] at c0
 have hpi:=(h.parts M.xs[k] (List.getElem_mem hk)).1
 have hii:=h.items M.xs[k] (List.getElem_mem hk)
 obtain⟨ia,ic,hvi⟩:=zl hii
 obtain⟨pa,pc,hvp⟩:=zl hpi
 obtain⟨x,hxe⟩:∃ x,x=M.xs[k]:=⟨_,rfl⟩
 rw[← hxe] at x0 x1 x2 x3 x4 hpi hii hvi hvp HKX
 rw[hvi] at x1
 rw[hvp] at x4
 simp only[List.length_append,List.length_singleton] at q1 hvt htl h3'
 have hrl:=h.lt
 have hge:=h.ge
 have hL:(mr.length:Int)<(mr.length:Int)+1:=by omega
 have hT:(tl.length:Int)<(tl.length:Int)+1:=by omega
 have hK:(k:Int)<(M.xs.length:Int):=by omega
 have H:Hid (Mem w B rb M lab (· = 0)):=h
 have HO:Hid (M.os=mr++[m]):=ho
 have HV:Hid (M.vo = .slice (some ⟨og,0,none⟩) (mr.length+1) oc):=hv
 have HTT:Hid (m.1.terms=tl++[k]):=ht
 have HVT:Hid (m.2.2 = .slice (some ⟨tg,0,none⟩) (tl.length+1) tc):=hvt
 have HX:Hid (M.vx = .slice (some ⟨xg,0,none⟩) M.xs.length xc):=hx
 have HXE:Hid (x=M.xs[k]):=hxe
 have k10:((x.1.kind:Int) == 10)=false:=beq_eq_false_iff_ne.2 (by omega)
 have k11:((x.1.kind:Int) == 11)=false:=beq_eq_false_iff_ne.2 (by omega)
 have hko:=fun w=>zan sg hsg w
 have had:=fun (W:World) (labW:Nat→Nat) (hM:Mem W B rb M labW (· = 0)) (pa:Option Addr) (pl pc:Nat)=>
  YG W B rb (some ⟨xg,0,none⟩) xc M.xs.length M.vr M.vo M.sign M.may (M.xs.flatMap exC) (Thk.zE sg) none 0 0 ⟨#[]⟩ 0 pa pl pc (by rw[← hx];exact hM.blk) (by rw[← hx];exact hM.ex) (by omega) hM.ge
 have hngo:some og≠(Value.slice (some ⟨xg,0,none⟩) M.xs.length xc).ownBlock:=fun e1=>Ki h.ex h.op (by decide) (b:=og) (by rw[hv];rfl) (by rw[hx];exact e1.symm)
 have hngt:some tg≠(Value.slice (some ⟨xg,0,none⟩) M.xs.length xc).ownBlock:=fun e1=>Ki h.ex h3' (by decide) (b:=tg) rfl (by rw[hx];exact e1.symm)
 have hogt:og≠tg:=fun e1=>Ki h3' h.op (by decide) (b:=og) (by rw[hv];rfl) (by rw[e1];rfl)
 have htog:tg≠og:=fun e1=>hogt e1.symm
 have htr:tg≠rb:=fun e1=>zn h3' h.blk (by decide) (by rw[← e1];rfl)
 have HFT:Hid (w.frozen? ⟨tg,tl.length,none⟩=false):=h3'.frozenAt _
 have HKK:Hid (x.1.kind≠10∧x.1.kind≠11):=HKX
 clear h ho hv ht hvt hx hxe hpi hii hvi hvp h1 h2 h3 h3' h4 hxc hkind q0 q2
 go_enter Tryz.func142,Tryz.ntmps142
 go_wp2_with fail
 go_quiet (fail)
 go_wp2_with fail
 go_quiet (fail)
 generalize hWe:(w.drewN _).drewN _=W
 have hcc:∀ a,w.cell? a=W.cell? a:=fun a=>by rw[← hWe];rfl
 have hff:∀ a,w.frozen? a=W.frozen? a:=fun a=>by rw[← hWe];rfl
 have hhh:W.heap=w.heap:=by rw[← hWe];rfl
 simp only[hcc] at c0 c2 c4 q1 ck x0 x1 x2 x3 x4
 simp only[hff] at f4 qf hxf HFT
 have HW:Hid (Mem W B rb M lab (· = 0)):=by rw[← hWe];exact (H.out.drewN _).drewN _
 have HKW:Hid (KT B w W):=by rw[← hWe];exact ((KT.refl B w).drewN _).drewN _
 have hol:og<W.heap.size:=by rw[hhh];exact hol
 have htl:tg<W.heap.size:=by rw[hhh];exact htl
 have hxl:xg<W.heap.size:=by rw[hhh];exact hxl
 have hrl:rb<W.heap.size:=by rw[hhh];exact hrl
 clear hWe hcc hff hhh H
 go_wp2_with fail
 generalize hWe:W.alloc (.cells #[.int .i64 x.1.kind,.slice ia x.1.items.length ic,.string ⟨x.1.text.toArray⟩,.int .i64 x.1.rule,.slice pa x.1.parts.length pc] 149)=W1
 have hb1W:Below W.heap.size W W1:=by rw[← hWe];exact zc _ _
 have hsz1:W1.heap.size=W.heap.size+1:=by rw[← hWe];simp
 have hM1:=HW.out.below (lab':=lab) hb1W (fun _ _=>rfl)
 have hK1:KT B W W1:=by rw[← hWe];exact KT.alloc B W (by omega) _
 have cc:∀ b o,b<W.heap.size→W1.cell? ⟨b,o,none⟩=W.cell? ⟨b,o,none⟩:=(Y3 hb1W).1
 have cf:∀ b o,b<W.heap.size→W1.frozen? ⟨b,o,none⟩=W.frozen? ⟨b,o,none⟩:=(Y3 hb1W).2
 have d1:W1.cell? ⟨og,mr.length * 3+1,none⟩=some (.slice (some ⟨tg,0,none⟩) (tl.length+1) tc):=(cc _ _ hol).trans q1
 have d2:W1.cell? ⟨tg,tl.length,none⟩=some (.int .i64 k):=(cc _ _ htl).trans ck
 have d3:W1.cell? ⟨rb,4,none⟩=some (.bool M.may):=(cc _ _ hrl).trans c4
 have d4:W1.frozen? ⟨rb,4,none⟩=false:=(cf _ _ hrl).trans f4
 have d5:W1.frozen? ⟨tg,tl.length,none⟩=false:=(cf _ _ htl).trans HFT.out
 have hM2:=(hM1.below (lab':=upd lab W1.heap.size 0) (w':=W1.alloc (.cells #[.int .i64 k] 3)) (zc _ _) (fun g hg=>by unfold upd;rw[if_neg (by omega)])).drew
 have hadX:=had _ _ hM2 (some ⟨W1.heap.size,0,none⟩) 1 1
 have HM2:=z6 hM2
 have HADX:=z6 hadX
 have HKO:Hid (∀ w,Calls Tryz.prog 143 #[.string ⟨sg.toArray⟩] w fun e w'=>e = .returned (.int .i64 (Thk.zE sg))∧w'=w):=hko
 have p1:((W1.alloc (.cells #[.int .i64 k] 3)).drew).cell? ⟨og,mr.length * 3+1,none⟩=some (.slice (some ⟨tg,0,none⟩) (tl.length+1) tc):=(World.cell?_alloc_lt _ _ _ (show og<W1.heap.size by omega)).trans d1
 have p2:((W1.alloc (.cells #[.int .i64 k] 3)).drew).cell? ⟨tg,tl.length,none⟩=some (.int .i64 k):=(World.cell?_alloc_lt _ _ _ (show tg<W1.heap.size by omega)).trans d2
 have p3:((W1.alloc (.cells #[.int .i64 k] 3)).drew).frozen? ⟨tg,tl.length,none⟩=false:=(World.frozen?_alloc_old _ _ _ (show tg≠W1.heap.size by omega)).trans d5
 have HP1:=z6 p1
 have HP2:=z6 p2
 have HP3:=z6 p3
 have HL1:Hid (og<((W1.alloc (.cells #[.int .i64 k] 3)).drew).heap.size∧tg<((W1.alloc (.cells #[.int .i64 k] 3)).drew).heap.size∧og≠rb∧tg≠rb):=by
  have e1:((W1.alloc (.cells #[.int .i64 k] 3)).drew).heap.size=W1.heap.size+1:=by show (W1.alloc _).heap.size=_;simp
  exact⟨by rw[e1];omega,by rw[e1];omega,hor,htr⟩
 clear p1 p2 p3
 have HNG:=(show Hid (some og≠(Value.slice (some ⟨xg,0,none⟩) M.xs.length xc).ownBlock∧some tg≠(Value.slice (some ⟨xg,0,none⟩) M.xs.length xc).ownBlock) from ⟨hngo,hngt⟩)
 have HK1:=(show Hid _ from hK1)
 have hB1:B≤W1.heap.size:=by omega
 clear hWe hb1W hM1 hM2 hK1 cc cf c0 c2 c4 q1 ck x0 x1 x2 x3 x4 f4 qf hxf had HFT hadX hko d2 d3 d4 d5 hngo hngt k10 k11 HKX hsz1
 have hw0:IntKind.i64.wrap (tl.length:Int)=(tl.length:Int):=by
  unfold IntKind.wrap
  simp[IntKind.signed,IntKind.bits]
  omega
 have hw1:(0:Int)≤(tl.length:Int):=by omega
 go_region_held (fun w'=>w'.cell? ⟨og,mr.length * 3+1,none⟩=some (.slice (some ⟨tg,0,none⟩) (tl.length+1) tc)) (go_keep)
  (first | (go_at_call 143;refine (HKO.out _).mono ?_;rintro e1 w' ⟨rfl,hw⟩;replace hw:=hw.symm;subst hw) | (go_at_call 102;go_loud (refine HADX.out.mono ?_;rintro e1 w2 ⟨xg2,xcap,rfl,hAE⟩;have HAE:=z6 hAE;have y1:=(World.cell?_of_block (a:=⟨og,mr.length * 3+1,none⟩) (hAE.same og HL1.out.1 HL1.out.2.2.1 HNG.out.1)).trans HP1.out;have y2:=(World.cell?_of_block (a:=⟨tg,tl.length,none⟩) (hAE.same tg HL1.out.2.1 HL1.out.2.2.2 HNG.out.2)).trans HP2.out;have y5:=(World.frozen?_of_block (a:=⟨tg,tl.length,none⟩) (hAE.same tg HL1.out.2.1 HL1.out.2.2.2 HNG.out.2)).trans HP3.out;clear hAE)))
 all_goals (have y3:w2.cell? ⟨rb,4,none⟩=some (.bool M.may):=z8 HAE.out.blk 4;have y4:w2.frozen? ⟨rb,4,none⟩=false:=zi HAE.out.blk 4)
 all_goals go_wp2_with fail
 all_goals
  have hint:Ints ((W1.alloc (.cells #[.int .i64 k] 3)).drew) B (.slice (some ⟨W1.heap.size,0,none⟩) 1 1) [k]:=Zv (World.ownsRow_lit W1 #[.int .i64 k] 1 hB1 (by decide) rfl) (Below.refl _ _).drew
  obtain⟨hA1,hKA⟩:=HM2.out.add (re:=Thk.zy (Thk.zE sg) k) (iv:=.slice none 0 0) (pv:=.slice (some ⟨W1.heap.size,0,none⟩) 1 1) (by rw[HX.out];exact HAE.out) (World.ownsRow_nil _ _ _ _) hint (fun b hb=>by simp[Value.ownBlock] at hb;subst hb;simp[upd])
  obtain⟨hA2,hKB⟩:=hA1.setLast (mr:=mr) (m:=m) HO.out HTT.out HVT.out M.xs.length
  obtain⟨hA3,hKC⟩:=hA2.setMay false
  go_end0
  refine⟨rfl,_,_,hA3,?_,?_⟩
  ·exact HKW.out.trans (HK1.out.trans ((((KT.alloc B W1 hB1 _)).drew).trans (hKA.trans (hKB.trans hKC))))
  ·have e1:M.st.top=m.1:=by simp[MV.st,Thk.ST.top,HO.out,List.getLastD_concat]
   have e2:M.st.xs.getD k Thk.RE.z=x.1:=by rw[HXE.out];simp[MV.st,hk]
   have e3:M.st.xs.length=M.xs.length:=by simp[MV.st]
   unfold Thk.ST.behind
   simp only[e1,HTT.out,List.getLastD_concat,e2,e3]
   rw[if_neg (by have:=HKK.out;omega)]
   simp[MV.st,Thk.ST.add,Thk.ST.setTop,HO.out]
theorem zho (w:World) (B rb:Nat) (M:MV) (lab:Nat→Nat) (h:Mem w B rb M lab (· = 0)) (mr:List (Thk.OP × Value × Value)) (m:Thk.OP × Value × Value) (ho:M.os=mr++[m]) (tl:List Nat) (k:Nat) (ht:m.1.terms=tl++[k]) (hk:k<M.xs.length)
  (hkind:(M.xs[k].1.kind=10∨M.xs[k].1.kind=11)∧M.xs[k].1.parts≠[]) (sg:Thk.z7) (hsg:YW sg) (hb0:M.xs.length≤90000) (hb1:tl.length≤90000) (hb2:mr.length≤90000) :
  Calls Tryz.prog 142 #[.pointer (some ⟨rb,0,none⟩),.string ⟨sg.toArray⟩] w fun e' w'=>QS w B rb (M.st.behind sg) (.tuple #[]) e' w':=by
 have HKX:=hkind
 obtain⟨og,oc,hv,hgB,hol,hor,q0,q1,q2,qf⟩:=h.topAt ho
 have c2:w.cell? ⟨rb,2,none⟩=some M.vo:=z8 h.blk 2
 have c4:w.cell? ⟨rb,4,none⟩=some (.bool M.may):=z8 h.blk 4
 have f4:w.frozen? ⟨rb,4,none⟩=false:=zi h.blk 4
 rw[hv] at c2
 obtain⟨h1,h2,h3,h4⟩:=(h.topCells ho hv).2.2.2.2.2.2
 have h3':=h3
 unfold Ints at h3'
 rw[ht] at h3'
 obtain⟨tg,tc,hvt,_,htl⟩:=h3'.form (by simp)
 rw[hvt] at h3' q1
 have ck:w.cell? ⟨tg,tl.length,none⟩=some (.int .i64 k):=by
  rw[h3'.cellAt _ (by simp)];simp[Zq]
 obtain⟨xg,xc,hx,hxB,hxl,⟨xcs,hxb⟩,hxf,hxc⟩:=h.exAt (by omega)
 obtain⟨x0,x1,x2,x3,x4⟩:=hxc k hk
 have c0:w.cell? ⟨rb,0,none⟩=some M.vx:=z8 h.blk 0
 rw[hx] at c0
 have hpi:=(h.parts M.xs[k] (List.getElem_mem hk)).1
 have hii:=h.items M.xs[k] (List.getElem_mem hk)
 obtain⟨ia,ic,hvi⟩:=zl hii
 obtain⟨pa,pc,hvp⟩:=zl hpi
 obtain⟨x,hxe⟩:∃ x,x=M.xs[k]:=⟨_,rfl⟩
 rw[← hxe] at x0 x1 x2 x3 x4 hpi hii hvi hvp HKX
 rw[hvi] at x1
 rw[hvp] at x4
 simp only[List.length_append,List.length_singleton] at q1 hvt htl h3'
 have hrl:=h.lt
 have hge:=h.ge
 have hL:(mr.length:Int)<(mr.length:Int)+1:=by omega
 have hT:(tl.length:Int)<(tl.length:Int)+1:=by omega
 have hK:(k:Int)<(M.xs.length:Int):=by omega
 have H:Hid (Mem w B rb M lab (· = 0)):=h
 have HO:Hid (M.os=mr++[m]):=ho
 have HV:Hid (M.vo = .slice (some ⟨og,0,none⟩) (mr.length+1) oc):=hv
 have HTT:Hid (m.1.terms=tl++[k]):=ht
 have HVT:Hid (m.2.2 = .slice (some ⟨tg,0,none⟩) (tl.length+1) tc):=hvt
 have HX:Hid (M.vx = .slice (some ⟨xg,0,none⟩) M.xs.length xc):=hx
 have HXE:Hid (x=M.xs[k]):=hxe
 obtain⟨p,ps,hps⟩:∃ p ps,x.1.parts=p::ps:=by
  cases hc:x.1.parts with
  | nil=>exact absurd hc HKX.2
  | cons p ps=>exact⟨p,ps,rfl⟩
 have hpi':=hpi
 unfold Ints at hpi'
 rw[hps] at hpi'
 obtain⟨pg,pcap,hvp2,_,hpl⟩:=hpi'.form (by simp)
 rw[hvp2] at hpi'
 have cp:w.cell? ⟨pg,0,none⟩=some (.int .i64 p):=by
  rw[hpi'.cellAt _ (by simp)];simp[Zq]
 have x4:w.cell? ⟨xg,k * 5+4,none⟩=some (.slice (some ⟨pg,0,none⟩) (ps.length+1) pcap):=by rw[x4,← hvp,hvp2];simp
 have hpl':(0:Int)<(ps.length:Int)+1:=by omega
 have HPS:Hid (x.1.parts=p::ps):=hps
 have HFT:Hid (True):=trivial
 have hkk:((x.1.kind:Int) == 10)=true∨(((x.1.kind:Int) == 10)=false∧((x.1.kind:Int) == 11)=true):=by
  rcases HKX.1 with h | h<;>rw[h]
  ·left;rfl
  ·right;exact⟨rfl,rfl⟩
 have HKK:Hid (x.1.kind=10∨x.1.kind=11):=HKX.1
 have hko:=fun w=>zan sg hsg w
 have had:=fun (W:World) (labW:Nat→Nat) (hM:Mem W B rb M labW (· = 0)) (pa:Option Addr) (pl pc:Nat)=>
  YG W B rb (some ⟨xg,0,none⟩) xc M.xs.length M.vr M.vo M.sign M.may (M.xs.flatMap exC) (Thk.zE sg) none 0 0 ⟨#[]⟩ 0 pa pl pc (by rw[← hx];exact hM.blk) (by rw[← hx];exact hM.ex) (by omega) hM.ge
 have hk1:(k:Int)<(M.xs.length:Int)+1:=by omega
 have hpgx:pg≠xg:=fun e1=>zn hpi' hxb (by decide) (by rw[← e1];rfl)
 have hpgr:pg≠rb:=fun e1=>zn hpi' h.blk (by decide) (by rw[← e1];rfl)
 clear h ho hv ht hvt hx hxe hpi hpi' hps hvp2 hii hvi hvp h1 h2 h3 h3' h4 hxc hkind q0 q2 HKX
 go_enter Tryz.func142,Tryz.ntmps142
 go_wp2_with fail
 go_quiet (fail)
 go_wp2_with fail
 go_quiet (fail)
 generalize hWe:(w.drewN _).drewN _=W
 have hcc:∀ a,w.cell? a=W.cell? a:=fun a=>by rw[← hWe];rfl
 have hff:∀ a,w.frozen? a=W.frozen? a:=fun a=>by rw[← hWe];rfl
 have hhh:W.heap=w.heap:=by rw[← hWe];rfl
 simp only[hcc] at c0 c2 c4 q1 ck x0 x1 x2 x3 x4 cp
 simp only[hff] at f4 qf hxf
 have HW:Hid (Mem W B rb M lab (· = 0)):=by rw[← hWe];exact (H.out.drewN _).drewN _
 have HKW:Hid (KT B w W):=by rw[← hWe];exact ((KT.refl B w).drewN _).drewN _
 have hrl:rb<W.heap.size:=by rw[hhh];exact hrl
 have hxl:xg<W.heap.size:=by rw[hhh];exact hxl
 have hpl:pg<W.heap.size:=by rw[hhh];exact hpl
 clear hWe hcc hff hhh H q1 ck qf
 rcases hkk with kk | ⟨k1,k2⟩
 all_goals
  go_wp2_with fail
  generalize hWe:W.alloc (.cells #[.int .i64 x.1.kind,.slice ia x.1.items.length ic,.string ⟨x.1.text.toArray⟩,.int .i64 x.1.rule,.slice (some ⟨pg,0,none⟩) (ps.length+1) pcap] 149)=W1
  have hb1W:Below W.heap.size W W1:=by rw[← hWe];exact zc _ _
  have hsz1:W1.heap.size=W.heap.size+1:=by rw[← hWe];simp
  have hM1:=HW.out.below (lab':=lab) hb1W (fun _ _=>rfl)
  have hK1:KT B W W1:=by rw[← hWe];exact KT.alloc B W (by omega) _
  have cc:∀ b o,b<W.heap.size→W1.cell? ⟨b,o,none⟩=W.cell? ⟨b,o,none⟩:=(Y3 hb1W).1
  have d0:W1.cell? ⟨pg,0,none⟩=some (.int .i64 p):=(cc _ _ hpl).trans cp
  have d1:W1.cell? ⟨W.heap.size,4,none⟩=some (.slice (some ⟨pg,0,none⟩) (ps.length+1) pcap):=by rw[← hWe];simp
  have hlt1:W.heap.size<W1.heap.size:=by omega
  have hpl1:pg<W1.heap.size:=by omega
  have hM2:=(hM1.below (lab':=upd lab W1.heap.size 0) (w':=W1.alloc (.cells #[.int .i64 p] 3)) (zc _ _) (fun g hg=>by unfold upd;rw[if_neg (by omega)])).drew
  have hadX:=had _ _ hM2 (some ⟨W1.heap.size,0,none⟩) 1 1
  have HM2:=z6 hM2
  have HADX:=z6 hadX
  have HKO:=z6 hko
  have HK1:=z6 hK1
  have hB1:B≤W1.heap.size:=by omega
  have p1:((W1.alloc (.cells #[.int .i64 p] 3)).drew).cell? ⟨W.heap.size,4,none⟩=some (.slice (some ⟨pg,0,none⟩) (ps.length+1) pcap):=(World.cell?_alloc_lt _ _ _ (show W.heap.size<W1.heap.size by omega)).trans d1
  have p2:((W1.alloc (.cells #[.int .i64 p] 3)).drew).cell? ⟨pg,0,none⟩=some (.int .i64 p):=(World.cell?_alloc_lt _ _ _ (show pg<W1.heap.size by omega)).trans d0
  have e1:((W1.alloc (.cells #[.int .i64 p] 3)).drew).heap.size=W1.heap.size+1:=by show (W1.alloc _).heap.size=_;simp
  have HP1:=z6 p1
  have HP2:=z6 p2
  have HN1:Hid (W.heap.size<((W1.alloc (.cells #[.int .i64 p] 3)).drew).heap.size∧W.heap.size≠rb∧some W.heap.size≠(Value.slice (some ⟨xg,0,none⟩) M.xs.length xc).ownBlock):=⟨by rw[e1];omega,by omega,by simp[Value.ownBlock];omega⟩
  have HN2:Hid (pg<((W1.alloc (.cells #[.int .i64 p] 3)).drew).heap.size∧pg≠rb∧some pg≠(Value.slice (some ⟨xg,0,none⟩) M.xs.length xc).ownBlock):=⟨by rw[e1];omega,hpgr,by simpa [Value.ownBlock] using hpgx⟩
  clear p1 p2 e1
  clear hWe hb1W hM1 hM2 hK1 cc c0 c2 c4 x0 x1 x2 x3 x4 f4 hxf hadX hsz1 cp
  go_region_held (fun w'=>w'.cell? ⟨W.heap.size,4,none⟩=some (.slice (some ⟨pg,0,none⟩) (ps.length+1) pcap)∧w'.cell? ⟨pg,0,none⟩=some (.int .i64 p)) (go_keep) (first | (go_at_call 143;refine (HKO.out _).mono ?_;rintro e1 w' ⟨rfl,hw⟩;replace hw:=hw.symm;subst hw) | (go_at_call 102;go_loud (refine HADX.out.mono ?_;rintro e1 w2 ⟨xg2,xcap,rfl,hAE⟩;have HAE:=z6 hAE;have y1:=(World.cell?_of_block (a:=⟨W.heap.size,4,none⟩) (hAE.same W.heap.size HN1.out.1 HN1.out.2.1 HN1.out.2.2)).trans HP1.out;have y2:=(World.cell?_of_block (a:=⟨pg,0,none⟩) (hAE.same pg HN2.out.1 HN2.out.2.1 HN2.out.2.2)).trans HP2.out;clear hAE)))
  all_goals
   have hint:Ints ((W1.alloc (.cells #[.int .i64 p] 3)).drew) B (.slice (some ⟨W1.heap.size,0,none⟩) 1 1) [p]:=Zv (World.ownsRow_lit W1 #[.int .i64 p] 1 hB1 (by decide) rfl) (Below.refl _ _).drew
   obtain⟨hA1,hKA⟩:=HM2.out.add (re:=Thk.zy (Thk.zE sg) p) (iv:=.slice none 0 0) (pv:=.slice (some ⟨W1.heap.size,0,none⟩) 1 1) (by rw[HX.out];exact HAE.out) (World.ownsRow_nil _ _ _ _) hint (fun b hb=>by simp[Value.ownBlock] at hb;subst hb;simp[upd])
   have hsz2:=HAE.out.size
   have hlab:=fun g (hg:g<w2.heap.size)=>(show upd (upd lab W1.heap.size 0) w2.heap.size 0 g=upd lab W1.heap.size 0 g by rw[upd,if_neg (by omega)])
   have hA1':=hA1.below (w':=w2.alloc (.cells #[.int .i64 M.xs.length] 3)) (lab':=upd (upd lab W1.heap.size 0) w2.heap.size 0) (zc _ _) hlab
   have hB2:B≤w2.heap.size:=by have:=hA1.lt;have:=hA1.ge;omega
   have hint2:Ints (w2.alloc (.cells #[.int .i64 M.xs.length] 3)) B (.slice (some ⟨w2.heap.size,0,none⟩) 1 1) [M.xs.length]:=World.ownsRow_lit w2 #[.int .i64 M.xs.length] 1 hB2 (by decide) rfl
   obtain⟨hA2,hKB⟩:=hA1'.setParts (k:=k) (xg:=xg2) (xc:=xcap) (by simp;omega) (by simp) hint2 (fun b hb=>by simp[Value.ownBlock] at hb;subst hb;simp[upd])
   obtain⟨xg',xc',hx',_,hxl',_,hxf',hxc'⟩:=hA1.exAt (by simp)
   simp only[List.length_append,List.length_singleton,Value.slice.injEq,Option.some.injEq,Addr.mk.injEq,and_true,true_and] at hx'
   obtain⟨rfl,rfl⟩:=hx'
   have z4:=(hxc' k (by simp;omega)).2.2.2.2
   have zf:=hxf' (k * 5+4)
   have z0:w2.cell? ⟨rb,0,none⟩=some (.slice (some ⟨xg2,0,none⟩) (M.xs.length+1) xcap):=z8 HAE.out.blk 0
   have y3:w2.cell? ⟨rb,4,none⟩=some (.bool M.may):=z8 HAE.out.blk 4
   have y4:w2.frozen? ⟨rb,4,none⟩=false:=zi HAE.out.blk 4
   have hrl2:rb<w2.heap.size:=za HAE.out.blk
   have hxr2:xg2≠rb:=fun e1=>zn hA1.ex hA1.blk (by decide) (by rw[← e1];rfl)
   have HA2:=z6 hA2
   have HKE:Hid (KT B w (w2.alloc (.cells #[.int .i64 M.xs.length] 3))):=HKW.out.trans (HK1.out.trans ((((KT.alloc B W1 hB1 _)).drew).trans (hKA.trans (KT.alloc B w2 hB2 _))))
   have HKB:=z6 hKB
   clear hA1 hA1' hA2 hKA hKB hlab hint hint2 hxc' hxf'
  all_goals go_wp2_with fail
  all_goals
   obtain⟨hA3,hKC⟩:=HA2.out.setMay false
   have ew:((w2.alloc (.cells #[.int .i64 M.xs.length] 3)).setCell ⟨xg2,k * 5+4,none⟩ (.slice (some ⟨w2.heap.size,0,none⟩) 1 1)).setCell ⟨rb,4,none⟩ (.bool false)=((w2.setCell ⟨xg2,k * 5+4,none⟩ (.slice (some ⟨w2.heap.size,0,none⟩) 1 1)).setCell ⟨rb,4,none⟩ (.bool false)).alloc (.cells #[.int .i64 M.xs.length] 3):=by
    rw[World.setCell_alloc_past _ _ _ _ hxl',World.setCell_alloc_past _ _ _ _ (by simpa using hrl2)]
   rw[ew] at hA3
   have hKE:=HKE.out.trans (HKB.out.trans hKC)
   rw[ew] at hKE
   go_end0
   refine⟨rfl,_,_,hA3,hKE,?_⟩
   have e1:M.st.top=m.1:=by simp[MV.st,Thk.ST.top,HO.out,List.getLastD_concat]
   have e2:M.st.xs.getD k Thk.RE.z=x.1:=by rw[HXE.out];simp[MV.st,hk]
   have e3:M.st.xs.length=M.xs.length:=by simp[MV.st]
   unfold Thk.ST.behind
   simp only[e1,HTT.out,List.getLastD_concat,e2,e3]
   rw[if_pos HKK.out]
   have hps:=HPS.out
   rw[HXE.out] at hps
   simp[MV.st,HXE.out,List.map_set,hk,hps]
end Go.Proofs.YtiganlkabilblaaGreatDoor
