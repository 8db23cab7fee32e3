import Derived.Test.YtiganlkabilblaaGreatDoorVL28
import Derived.Deep.RegionHeld
set_option linter.all false
set_option maxHeartbeats 64000000
set_option maxRecDepth 100000
namespace Go.Proofs.YtiganlkabilblaaGreatDoor
open Go.RowKit
attribute [local go_sem ↓] Go.wp_at_zero Go.wp_at_succ
theorem zpC (k:Nat) (hS:PlS k):PlC k:=by
 intro w A c u hp hk hw
 obtain⟨us,⟨hrow,hA⟩,hts⟩:=hp
 obtain⟨ua,uc,rfl⟩:=zl hrow
 have hsl:=zpi c
 have hs0:c≠[]:=by
  rintro rfl
  simp only[Thk.wtC] at hw
  omega
 have hpos : 0<c.length:=List.length_pos_iff.2 hs0
 have HVL:Hid (c.length=us.length):=zA.length hts
 obtain⟨i0,hi0,hz0,hz1,hz2⟩:=info_parts Tryz.infoString
 obtain⟨cur,hcs0,hmk⟩:=zoY c.length (by omega) w
 obtain⟨g,rfl,hcs,hgl⟩:=Jk hrow hpos
 have HM0:Hid (Below w.heap.size w (w.alloc (.cells cur 9))∧(w.alloc (.cells cur 9)).ownsRow w.heap.size 9 1 (.slice (some ⟨w.heap.size,0,none⟩) 0 c.length) 0 (((c.map Thk.znd).take 0).map znn)):=⟨zc _ _,World.ownsRow_made w cur c.length (Nat.le_refl _) (by unfold maxLen;omega) hcs0⟩
 have HJ:=z6 (zqa c hs0)
 have HLEN:=z6 (Nat.le_trans (Thk.znJ c) hw)
 have hn1:c.length≤500000:=by omega
 have HTS:=z6 hts
 have HCS:=z6 hcs
 have HK:=z6 hk
 have HW:=z6 hw
 clear hrow hA hts hk hw hsl hs0 hcs0 hcs
 go_enter Tryz.func70,Tryz.ntmps70
 go_wp2_with fail
 go_loopg [3,11] c.length (fun m vo vi wr=>∃ i:Nat,m=c.length - i∧vi = .int .i64 i∧i≤c.length∧Hid (Below w.heap.size w wr∧wr.ownsRow w.heap.size 9 1 vo i (((c.map Thk.znd).take i).map znn)))
 case atStart=>exact⟨0,by omega,rfl,by omega,HM0⟩
 case round=>
  obtain⟨i,rfl,rfl,hi,HI⟩:=hrel
  have hsr:=HI.out.1.size
  obtain⟨oa,oc,hvo⟩:=zl HI.out.2
  subst hvo
  by_cases hlt:i<c.length
  ·have hlt':(i:Int)<c.length:=by omega
   have hjv:i<us.length:=by have:=HVL.out;omega
   have c0 : wr.cell? ⟨g, i, none⟩ = some (us[i]'hjv) := by rw [HI.out.1.cell (p := ⟨g, _, none⟩) hgl, HCS.out _ (by omega)]; exact List.getElem?_eq_getElem hjv
   have htr:=zA.get HTS.out i hlt hjv
   have hpc := hS wr A c[i] (us[i]'hjv) (htr.kept (ZF HI.out.1)) (Nat.le_trans (KH c i hlt) HK.out) (Nat.le_trans (zph c i hlt) HW.out)
   obtain ⟨tt, xx, hvx⟩ : ∃ t x, us[i]'hjv = .slice t c[i].length x := by
    obtain⟨_,hr,_⟩:=htr
    exact zl hr.1
   rw[hvx] at c0 hpc
   have hsn:((c.map Thk.znd).take (i+1)).map znn=((c.map Thk.znd).take i).map znn++[znn (Thk.znd c[i])]:=by
    rw[List.take_succ_eq_append_getElem (by simpa using hlt),List.map_append];simp
   have HSN:=z6 hsn
   generalize Thk.znd c[i]=T at *
   generalize c[i].length=cl at *
   clear htr hvx hsn
   go_wp2_with fail
   refine hpc.mono ?_
   rintro _ w1 ⟨rfl,hb1⟩
   have hz1':=hb1.size
   have HB1:=z6 hb1
   have hown1:=Zv HI.out.2 HB1.out
   clear hpc hb1
   go_wp2_with (first | (at_builtin;refine wpList_append_own_at _ rfl _ _ 58 rfl (w.heap.size) 9 i0 _ 1 16 Tryz.underlying58 hi0 hz0 hz1 hz2 rfl (by decide) _ _ _ rfl (hown1.alloc _) ⟨w1.heap.size,0,none⟩ 1 1 [.string ⟨T.toArray⟩] rfl rfl ?c1 ?c2 ?c3 ?c4 ?c5 ?_))
   case c1=>exact cell_one_new _ _ _
   case c2=>intro u hu;simp at hu;subst hu;rfl
   case c3=>unfold maxLen;omega
   case c4=>omega
   case c5=>simp;omega
   intro v' w5 hown' hgrow _ hat
   obtain⟨va,vc,hv⟩:=zl hown'
   subst hv
   have HN:Hid (Below w.heap.size w w5∧w5.ownsRow w.heap.size 9 1 (.slice va (i+1) vc) (i+1) (((c.map Thk.znd).take (i+1)).map znn)):=by
    refine⟨ze1 HI.out.1 hown1 HB1.out hgrow,?_⟩
    rw[HSN.out,List.map_take,List.map_map]
    exact hown'
   clear hown' hgrow hat hown1
   go_wp2_with fail
   go_roundg (c.length - (i+1))
   case measure=>omega
   case rel=>exact⟨i+1,rfl,by go_num,by omega,HN⟩
  ·have hlt':¬ (i:Int)<c.length:=by omega
   have hie:i=c.length:=by omega
   subst hie
   have htk:(c.map Thk.znd).take c.length=c.map Thk.znd:=List.take_of_length_le (by simp)
   have hrw:=HI.out.2
   rw[htk] at hrw
   have hjn:=zoV hrw (by simp) hpos (by omega) HJ.out (by have:=HLEN.out;omega)
   have HJN:=z6 hjn
   clear htk hrw hjn
   go_wp2_with fail
   refine HJN.out.mono ?_
   rintro _ w6 ⟨rfl,hb6⟩
   have HB6:=z6 (HI.out.1.trans (hb6.mono hsr))
   clear hb6
   go_wp2_with fail
   go_ret
   exact⟨rfl,HB6.out⟩
theorem zpX (k:Nat):PlC k∧PlG k:=by
 induction k using Nat.strongRecOn with
 | ind k ih=>
  have hP:PlP k:=zpT k (fun k' h=>(ih k' h).2)
  have hT:PlT k:=zqs k hP
  have hC:PlC k:=zpC k (zqi k hT)
  exact⟨hC,zpJ k hP hT hC⟩
theorem zpB (w:World) (A:Nat→Prop) (c:Thk.Z5) (u:Value) (h:Zt w A c u) (hw:Thk.wtC c≤500000) :
  Calls Tryz.prog 70 #[u] w fun e w'=>e = .returned (.string ⟨(Thk.prC c).toArray⟩)∧Below w.heap.size w w':=
 (zpX (Qt c)).1 w A c u h (Nat.le_refl _) hw
abbrev zo2 (nm:Thk.z7) (ca:Option Addr) (cl cc:Nat):Obj:=.cells #[.string ⟨nm.toArray⟩,.slice ca cl cc] 142 (0,0)
theorem zpV (w:World) (A:Nat→Prop) (g:List Thk.ze) (ga:Addr) (gc:Nat) (h:Zj w A g (.slice (some ga) g.length gc)) (hok:GOk g) (hl:g.length≤20) :
  Calls Tryz.prog 40 #[.slice (some ga) g.length gc] w fun e w'=>e = .returned (.string ⟨(prG g).toArray⟩)∧Below w.heap.size w w':=by
 have HG:=z6 h
 have HOK:=z6 hok
 have HS:Hid (znh w.heap.size w.heap.size (prG (g.take 0)) (w.alloc (.cells #[.pointer none,.slice none 0 0] 138))∧Below w.heap.size w (w.alloc (.cells #[.pointer none,.slice none 0 0] 138))):=⟨zoy w,zc _ _⟩
 clear h hok
 go_enter Tryz.func40,Tryz.ntmps40
 go_wp2_with fail
 go_loopg [8] g.length (fun m v wr=>∃ i:Nat,m=g.length - i∧v = .int .i64 i∧i≤g.length∧Hid (znh w.heap.size w.heap.size (prG (g.take i)) wr∧Below w.heap.size w wr))
 case atStart=>exact⟨0,by omega,rfl,by omega,HS⟩
 case round=>
  obtain⟨i,rfl,rfl,hi,HI⟩:=hrel
  have hsr:=HI.out.2.size
  have hbl:=HI.out.1.lt
  by_cases hlt:i<g.length
  ·have hlt':(i:Int)<g.length:=by omega
   obtain⟨gb,ca,cc,rfl,hgbl,_,c0,c1,hch,hnl⟩:=HG.out.at i hlt
   have hgi:=HOK.out g[i] (List.getElem_mem hlt)
   have c0':wr.cell? ⟨gb,i * 2,none⟩=some (.string ⟨g[i].name.toArray⟩):=by rw[HI.out.2.cell (p:=⟨gb,_,none⟩) hgbl];exact c0
   have c1':wr.cell? ⟨gb,i * 2+1,none⟩=some (.slice ca g[i].choice.length cc):=by rw[HI.out.2.cell (p:=⟨gb,_,none⟩) hgbl];exact c1
   have hct:=fun (W:World) (hb:Below w.heap.size w W)=>zpB W A g[i].choice _ (hch.kept (ZF hb)) hgi.1
   have hsn:=zqc hlt
   have hl2:=zqd HOK.out hl i
   have hl1:=zp2 hgi
   have hn20:=hgi.2
   have hprR:prR g[i]=((g[i].name++[32,60,45,32])++Thk.prC g[i].choice)++[10]:=rfl
   rw[hprR] at hsn hl1
   generalize g[i].name=nm at *
   generalize Thk.prC g[i].choice=bd at *
   generalize g[i].choice.length=cl at *
   have a1:∀ W:World,(Op.stringOp .add ⟨nm.toArray⟩ ⟨#[32,60,45,32]⟩).run Tryz.prog W = .ok (.string ⟨(nm++[32,60,45,32]).toArray⟩) W:=fun W=>znD nm [32,60,45,32] (by simp;omega) W
   have a2:∀ W:World,(Op.stringOp .add ⟨(nm++[32,60,45,32]).toArray⟩ ⟨bd.toArray⟩).run Tryz.prog W = .ok (.string ⟨((nm++[32,60,45,32])++bd).toArray⟩) W:=fun W=>znD _ bd (by simp;omega) W
   have a3:∀ W:World,(Op.stringOp .add ⟨((nm++[32,60,45,32])++bd).toArray⟩ ⟨#[10]⟩).run Tryz.prog W = .ok (.string ⟨(((nm++[32,60,45,32])++bd)++[10]).toArray⟩) W:=fun W=>znD _ [10] (by simp;omega) W
   generalize ((nm++[32,60,45,32])++bd)++[10]=Z at *
   generalize (nm++[32,60,45,32])++bd=Y at *
   generalize nm++[32,60,45,32]=V at *
   have hbw:=fun (W:World) (hb:znh w.heap.size w.heap.size (prG (g.take i)) W) (hB:w.heap.size≤W.heap.size)=>zob w.heap.size w.heap.size (prG (g.take i)) ⟨Z.toArray⟩ W hb (by rw[znU];omega) hB
   rw[show (ByteArray.mk Z.toArray).data.toList=Z from by simp] at hbw
   obtain⟨X,hX⟩:∃ X,X=wr.alloc (.cells #[.string ⟨nm.toArray⟩,.slice ca cl cc] 142):=⟨_,rfl⟩
   have hXb:Below wr.heap.size wr X:=by rw[hX];exact zc _ _
   have HO:Hid (X.heap[wr.heap.size]? = some (zo2 nm ca cl cc)):=by rw[hX];exact zk _ _
   have s0:X.cell? ⟨wr.heap.size,0,none⟩=some (.string ⟨nm.toArray⟩):=z8 HO.out 0
   have s1:X.cell? ⟨wr.heap.size,1,none⟩=some (.slice ca cl cc):=z8 HO.out 1
   have hXl:wr.heap.size<X.heap.size:=za HO.out
   have HB:=z6 (HI.out.2.trans (hXb.mono hsr))
   have HBL:=z6 (HI.out.1.below hXb)
   have HCT:=z6 hct
   have HBW:=z6 hbw
   have HSN:=z6 hsn
   have HNE:Hid (some wr.heap.size≠some w.heap.size):=fun e=>by have:=Option.some.inj e;omega
   have HNT:Hid (∀ (c:Array Value) (fz:Nat × Nat),zo2 nm ca cl cc≠.cells c 5 fz):=fun c fz e=>by cases e
   clear hct hbw hsn hl1 hl2 hn20 hprR hgi hch c0 c1 hnl hXb
   go_wp2_with fail
   rw[← hX]
   clear hX
   go_region_held (fun w'=>w'.cell? ⟨wr.heap.size,0,none⟩=some (.string ⟨nm.toArray⟩)∧w'.cell? ⟨wr.heap.size,1,none⟩=some (.slice ca cl cc)) (go_keep)
    (first
     | (go_at_call 70;refine (HCT.out X.drew HB.out.drew).mono ?_;rintro _ wn ⟨rfl,hb⟩;replace HO:Hid (wn.heap[wr.heap.size]? = some (zo2 nm ca cl cc)):=(hb.block _ hXl).trans HO.out;replace s0:wn.cell? ⟨wr.heap.size,0,none⟩=some (.string ⟨nm.toArray⟩):=z8 HO.out 0;replace s1:wn.cell? ⟨wr.heap.size,1,none⟩=some (.slice ca cl cc):=z8 HO.out 1;replace HB:=z6 (HB.out.drew.trans (hb.mono (Nat.le_trans hsr (Nat.le_of_lt hXl))));replace HBL:=z6 (znh.below (w:=X.drew) HBL.out hb);clear hb)
     | (go_at_call 69;refine (HBW.out _ HBL.out HB.out.size).mono ?_;rintro _ wz ⟨rfl,hbz,hbz2,hbz3⟩;replace HO:Hid (wz.heap[wr.heap.size]? = some (zo2 nm ca cl cc)):=hbz3 _ _ HO.out HNE.out HNT.out;replace s0:wz.cell? ⟨wr.heap.size,0,none⟩=some (.string ⟨nm.toArray⟩):=z8 HO.out 0;replace s1:wz.cell? ⟨wr.heap.size,1,none⟩=some (.slice ca cl cc):=z8 HO.out 1;have HBZ:=z6 hbz;have HBB:=z6 (HB.out.trans hbz2);clear hbz hbz2 hbz3))
   all_goals go_wp2_with fail
   all_goals
    go_roundg (g.length - (i+1))
    case measure=>omega
    case rel=>exact⟨i+1,rfl,by go_num,by omega,by rw[HSN.out];exact⟨HBZ.out,HBB.out⟩⟩
  ·have hlt':¬ (i:Int)<g.length:=by omega
   have htk:g.take i=g:=List.take_of_length_le (by omega)
   have hbl2:=HI.out.1
   rw[htk] at hbl2
   have hst:=zoB w.heap.size w.heap.size _ wr hbl2 hsr
   have HST:=z6 hst
   clear hst htk hbl2
   go_wp2_with fail
   refine HST.out.mono ?_
   rintro _ w6 ⟨rfl,hb6⟩
   have HB6:=z6 (HI.out.2.trans hb6)
   clear hb6
   go_wp2_with fail
   go_ret
   exact⟨rfl,HB6.out⟩
end Go.Proofs.YtiganlkabilblaaGreatDoor
