import Derived.Test.YtiganlkabilblaaGreatDoorVU36
import Derived.Deep.RegionHeld
import Derived.Test.YtiganlkabilblaaGreatDoorRows
import Derived.WalkKit
import Derived.ProofKit
import Derived.OpenShut
import Derived.ShutString
import Derived.ChangeMaps5
import Derived.ChangeOld
import Derived.Below
import Derived.ChangeSame
import Derived.ChangeVars
import Derived.JoinedOf
import Derived.RowKit
import Derived.RowKitTokens
import Derived.LaidLaws
import Derived.LaidHandle
import Derived.Stop.Joined
import Derived.Test.YtiganlkabilblaaGreatDoorTie
import Derived.Test.YtiganlkabilblaaGreatDoorCards
import Derived.SevenTiedAt
set_option linter.all false
set_option maxHeartbeats 64000000
set_option maxRecDepth 100000
namespace Go.Proofs.YtiganlkabilblaaGreatDoor
open Go.RowKit Thk Go.Lib
attribute [local go_sem ↓] Go.wp_at_zero Go.wp_at_succ
def TrO (c:Z5) (inp:z7) (L:List Nod) (n:Nat) (b:Bool):Prop:=(L=[]∧n=0∧b=false)∨∃ e m,Ev (gs c) inp (.C c) 0 (some (e,m))∧L=K0 (e,m)∧n=e∧b=true
theorem TrO.pos {c:Z5} {inp:z7} {L:List Nod} {n:Nat} {b:Bool} (h:TrO c inp L n b):decide (0<L.length)=b:=by
 rcases h with ⟨rfl,_,rfl⟩ | ⟨e,m,_,rfl,_,rfl⟩
 ·rfl
 ·simp[K0]
theorem zmW {r:Nat} (h:r≤2):K2.getD r [] ∈ K2∧#[Value.string (bs nmS),.string (bs zbT),.string (bs zbU)][r]? = some (.string (bs (K2.getD r []))):=by
 have:r=0∨r=1∨r=2:=by omega
 rcases this with rfl | rfl | rfl
 ·exact⟨by simp,rfl⟩
 ·exact⟨by simp,rfl⟩
 ·exact⟨by simp,rfl⟩
theorem zn2 (w:World) (a:Option Addr) (len cap:Nat) (style:Int) (inp:ByteArray) (hr:zjX w a len) (hl:len≤maxLen) (hs:i64 style) (hi:inp.size≤maxLen) (hE:QD w) :
  Calls Tryz.prog 12 #[.slice a len cap,.int .i64 style,.string inp] w fun e w'=>e = .returned (.bool true)∧Below w.heap.size w w':=by
 have hx:=zl0 w a len cap style hr hl hs
 have HX:=z6 hx
 have HE:=z6 hE
 clear hr hE hx
 go_enter Tryz.func12,Tryz.ntmps12
 go_wp2_with fail
 refine (zks inp _ hi).mono ?_
 rintro _ w0 ⟨s,rfl,hs60,rfl⟩
 go_wp2_with fail
 refine HX.out.mono ?_
 rintro _ w1 ⟨⟨x,ee,dd⟩,rfl,hG,hd4,hlx,hb1⟩
 simp only[] at hG hd4 hlx
 obtain⟨c,hPx,hGt⟩:=hG.gt
 have xs:=zjU x
 have HB1:=z6 hb1
 have hz1:=hb1.size
 have HPX:=z6 hPx
 have HGT:=z6 hGt
 clear HX hG hPx hGt hb1
 simp only[mdV]
 have hfd:=zl5
 go_wp2_with fail
 refine (zl6 _).mono ?_
 rintro _ w2 ⟨rfl,rfl⟩
 go_wp2_with fail
 generalize hT:(⟨#[115,32,60,45,32]⟩++bs x++⟨#[32,110,117,109,32,60,45,32,91,48,45,57,93,32,110,117,109,63,32,119,111,114,100,32,60,45,32,39,97,39,32,119,111,114,100,32,39,98,39,32,47,32,39,99,39,32,39,97,39,63]⟩:ByteArray)=T
 have hTb:T=bs (hdB++(x++zjP)):=by
  rw[← hT,← zf,← zf]
  apply ByteArray.ext
  simp[ByteArray.data_append]
 have hTl:T.data.toList=hdB++(x++zjP):=by rw[hTb]
 have hTz:T.size≤800:=by
  rw[hTb,zjU]
  simp
  omega
 have hTs:T.size≤maxLen:=by unfold maxLen;omega
 have HTR:=z6 (zlp T s w2 hTs (by unfold maxLen;omega) (HE.out.below HB1.out))
 have HTL:=z6 hTl
 have HTB:=z6 hTb
 have HTS:=z6 hTs
 clear hT hTl hTb hTs hfd xs
 refine HTR.out.mono ?_
 rintro _ w3 ⟨hb3,v,cc,rfl,hI⟩
 have hB3:=HB1.out.trans (hb3.mono HB1.out.size)
 have hz3:=hb3.size
 obtain⟨L,n0,bb,hTr,hN,rfl,hMI⟩:∃ (L:List Nod) (n0:Nat) (bb:Bool),TrO c s.data.toList L n0 bb∧Y0 w3 w2.heap.size v L∧cc = .int .i64 0∧Ys T.data.toList s (.int .i64 n0) (.bool bb) (.int .i64 0):=by
  obtain⟨res,hP,hC⟩:=hI
  have hP':=hP
  rw[HTL.out] at hP'
  obtain⟨E,rfl⟩:=zm8 (zkr HPX.out (by omega)) HGT.out (by simp;omega) hP'
  simp only[] at hC
  rw[if_neg (by omega)] at hC
  obtain⟨o,ho,rfl,hv⟩:=hC
  have ho':Ev (gs c) s.data.toList (.C c) 0 o:=ho (by show (0:Nat)<3;decide)
  have hMM:∀ (n0:Nat) (bb:Bool),n0=(fin o).getD 0→bb=(fin o).isSome→Ys T.data.toList s (.int .i64 n0) (.bool bb) (.int .i64 0):=by
   rintro n0 bb rfl rfl
   refine⟨.ok (gs c,E),hP,?_⟩
   simp only[]
   rw[if_neg (by omega)]
   exact⟨o,ho,rfl,rfl,by first | rfl | trivial⟩
  cases o with
  | none=>
   simp only[] at hv
   subst hv
   exact⟨[],0,false,.inl ⟨rfl,rfl,rfl⟩,World.ownsRow_nil _ _ _ _,rfl,hMM _ _ rfl rfl⟩
  | some y=>
   obtain⟨a9,c9,rfl,h9⟩:=hv
   exact⟨K0 y,y.1,true,.inr ⟨y.1,y.2,ho',rfl,rfl,rfl⟩,h9,rfl,hMM _ _ rfl rfl⟩
 have HM:=z6 (zlo T s w3 HTS.out (by unfold maxLen;omega) (HE.out.below hB3))
 obtain⟨pa,pc,rfl,hLm,hcl⟩:=hN.gen
 have HCL:=z6 hcl
 have HTRO:=z6 hTr
 have HB3:=z6 hB3
 have HMI:=z6 hMI
 clear HTR hb3 hI hTr hN hB3 hMI hcl
 go_wp2_with fail
 refine HM.out.mono ?_
 intro _ w4 h4
 obtain⟨hb4,x4,y4,z4,rfl,hI4⟩:=h4.is
 obtain⟨e1,e2,e3⟩:=HMI.out.det hI4
 subst e1
 subst e2
 subst e3
 have hB4:=HB3.out.trans (hb4.mono HB3.out.size)
 have hz4:=hb4.size
 have HTK:=z6 (zlW (x:=zbT) (zkr (x:=zbT) (dep:=0) (c:=[[.mk 0 (.name zbT) 0]]) (zkO (t:=⟨.name,0,3,zbT,[]⟩) (fun tail ht=>⟨qo _ _ (by decide) (by decide),by simp[zM,Qu,Ql,ZQ,ht]⟩) rfl rfl rfl) (by decide)) (ee:=false) ⟨by simp[zx,Zc,ZG,Zi,zv,Term.piece],fun E h1 h2=>⟨by simp[Zl,ZH,Zu,Ze,h1],by simp[zx,Zc,ZG,Zi,zJ,Term.piece,Term.behind],by simp[ZC,Q2,JR,Zy]⟩⟩ (by decide) ⟨#[49,50]⟩ (by decide) w4 (HE.out.below hB4))
 have HB34:=z6 hb4
 have HB4:=z6 hB4
 clear HM h4 hI4 HMI hb4 hB4
 go_wp2_with fail
 refine HTK.out.mono ?_
 rintro _ w5 ⟨hb5,nk,rfl,hnk,_,_⟩
 obtain rfl:=zmX hnk
 have hz5:=hb5.size
 have HB5:=z6 (HB4.out.trans (hb5.mono HB4.out.size))
 have HB35:=z6 (HB34.out.trans (hb5.mono HB34.out.size))
 have hpos:=HTRO.out.pos
 clear HTK hb5 hnk HB34 HB4
 simp only[tkV]
 obtain⟨W,hW⟩:∃ W,W=w5.alloc (.cells #[.string (bs nmS),.string (bs zbT),.string (bs zbU)] 9):=⟨_,rfl⟩
 have hWb:W.heap[w5.heap.size]? = some (.cells #[.string (bs nmS),.string (bs zbT),.string (bs zbU)] 9 (0,0)):=by rw[hW];exact zk _ _
 have hWs:W.heap.size=w5.heap.size+1:=by rw[hW];simp
 have hW5:Below w5.heap.size w5 W:=by rw[hW];exact zc _ _
 have HWB:=z6 hWb
 have HBW:=z6 (HB5.out.trans (hW5.mono HB5.out.size))
 have HB3W:=z6 (HB35.out.trans (hW5.mono HB35.out.size))
 have hLb:L.length≤9223372036854775807:=hLm
 have hposI:decide ((0:Int)<(L.length:Int))=bb:=by rw[← hpos];simp
 clear hWb hW5 HB5 HB35
 -- LOOP
 have HUO:Hid (∀ i (hi:i<L.length),zmB c s.data.toList n0 L i hi):=z6 (by
  rcases HTRO.out with ⟨rfl,_,_⟩ | ⟨e,m,hev,rfl,rfl,_⟩
  ·intro i hi;simp at hi
  ·exact fun i hi=>zn3 HGT.out.names hev i hi)
 have hsl:s.data.toList.length=s.size:=rfl
 go_wp2_with fail
 rw[← hW]
 clear hW
 go_loopg [16] L.length (fun m v wr=>∃ i:Nat,m=L.length - i∧v = .int .i64 i∧i≤L.length∧Below W.heap.size W wr)
 case atStart=>exact⟨0,by omega,rfl,by omega,Below.refl _ _⟩
 case round=>
  obtain⟨i,rfl,rfl,hi2,hb⟩:=hrel
  have hzr:=hb.size
  have HBR:=z6 hb
  have HB3R:=z6 (HB3W.out.trans (hb.mono HB3W.out.size))
  clear hb
  by_cases hlt:i<L.length
  ·have hlt':(i:Int)<L.length:=by omega
   obtain⟨pg,rfl,hpg,q0,q1,q2,q3⟩:=HCL.out i hlt
   have hU:=HUO.out i hlt
   obtain⟨r,f,t,d,hLi⟩:∃ r f t d,L[i]=(r,f,t,d):=⟨_,_,_,_,rfl⟩
   have fa1:=hU.rule
   have fa2:=hU.le
   have fa3:=hU.upto
   have fa4:=hU.some'
   have fa5:=hU.first
   have fa6:=hU.deep
   have fa7:=hU.took
   have fa8:=hU.rel
   rw[hLi] at q0 q1 q2 q3 fa1 fa2 fa3 fa4 fa5 fa6 fa7 fa8
   simp only[] at q0 q1 q2 q3 fa1 fa2 fa3 fa4 fa5 fa6 fa7 fa8
   have hpg2:pg<wr.heap.size:=by have:=HB3R.out.size;omega
   have c0:wr.cell? ⟨pg,i * 4,none⟩=some (.int .i64 r):=by rw[HB3R.out.cell (p:=⟨pg,i * 4,none⟩) hpg];exact q0
   have c1:wr.cell? ⟨pg,i * 4+1,none⟩=some (.int .i64 f):=by rw[HB3R.out.cell (p:=⟨pg,i * 4+1,none⟩) hpg];exact q1
   have c2:wr.cell? ⟨pg,i * 4+2,none⟩=some (.int .i64 t):=by rw[HB3R.out.cell (p:=⟨pg,i * 4+2,none⟩) hpg];exact q2
   have c3:wr.cell? ⟨pg,i * 4+3,none⟩=some (.int .i64 d):=by rw[HB3R.out.cell (p:=⟨pg,i * 4+3,none⟩) hpg];exact q3
   obtain⟨hnmem,hnat⟩:=zmW fa1
   have hnl:(K2.getD r []).length≤4:=by
    have:r=0∨r=1∨r=2:=by omega
    rcases this with rfl | rfl | rfl<;>decide
   have hw5:w5.heap.size<wr.heap.size:=by omega
   have cn:wr.cell? ⟨w5.heap.size,r,none⟩=some (.string (bs (K2.getD r []))):=by
    rw[HBR.out.cell (p:=⟨w5.heap.size,r,none⟩) (by show w5.heap.size<W.heap.size;omega),z8 HWB.out]
    exact hnat
   have HMT:Hid (∀ W':World,Below wr.heap.size wr W'→∀ T4:ByteArray,T4=bs (zmu++(K2.getD r []++(32::(hdB++(x++zjP)))))→Calls Tryz.prog 28 #[.string T4,.string (s.extract f s.size)] W' fun e w'=>e = .returned (.tuple #[.int .i64 ((t:Int) - f),.bool true,.int .i64 0])∧Below W'.heap.size W' w'):=z6 (fun W' hW' T4 hT4=>by
    have h9:=zn1 HPX.out (by omega) HGT.out (by omega) hnmem T4 (s.extract f s.size) hT4 (by rw[ByteArray.size_extract];omega) W' (HE.out.below (HBW.out.trans ((HBR.out.trans (hW'.mono hzr)).mono HBW.out.size))) (k:=t - f) (by rw[zlM];exact fa7)
    rw[show ((t - f:Nat):Int)=(t:Int) - f from by omega] at h9
    exact h9)
   have HXB:Hid (∀ w6,Below (wr.alloc (.cells #[.int .i64 r,.int .i64 f,.int .i64 t,.int .i64 d] 60)).drew.heap.size (wr.alloc (.cells #[.int .i64 r,.int .i64 f,.int .i64 t,.int .i64 d] 60)).drew w6→∀ o,w6.cell? ⟨wr.heap.size,o,none⟩ = #[Value.int .i64 r,.int .i64 f,.int .i64 t,.int .i64 d][o]?):=z6 (fun w6 hb6 o=>by
    have hB:=zk wr (.cells #[.int .i64 r,.int .i64 f,.int .i64 t,.int .i64 d] 60)
    refine z8 (?_:w6.heap[wr.heap.size]? = some (.cells #[.int .i64 r,.int .i64 f,.int .i64 t,.int .i64 d] 60 (0,0))) o
    rw[hb6.block _ (by show _<(wr.alloc _).heap.size;simp)]
    exact hB)
   generalize K2.getD r []=nm at *
   have ns:=zjU nm
   have HNM:Hid (∀ w6,Below (wr.alloc (.cells #[.int .i64 r,.int .i64 f,.int .i64 t,.int .i64 d] 60)).drew.heap.size (wr.alloc (.cells #[.int .i64 r,.int .i64 f,.int .i64 t,.int .i64 d] 60)).drew w6→w6.cell? ⟨w5.heap.size,r,none⟩=some (.string (bs nm))):=z6 (fun w6 hb6=>by
    have hb7:Below wr.heap.size wr w6:=((zc _ _).drew).trans (hb6.mono (by show _≤(wr.alloc _).heap.size;simp))
    rw[hb7.cell (p:=⟨w5.heap.size,r,none⟩) hw5]
    exact cn)
   have HBF:Hid (∀ w6,Below (wr.alloc (.cells #[.int .i64 r,.int .i64 f,.int .i64 t,.int .i64 d] 60)).drew.heap.size (wr.alloc (.cells #[.int .i64 r,.int .i64 f,.int .i64 t,.int .i64 d] 60)).drew w6→Below wr.heap.size wr w6):=z6 (fun w6 hb6=>((zc _ _).drew).trans (hb6.mono (by show _≤(wr.alloc _).heap.size;simp)))
   rw[hsl] at fa3
   have g1:¬ (r:Int)<0:=by omega
   have g2:¬ (2:Int)<r:=by omega
   have g3:¬ (f:Int)<0:=by omega
   have g4':¬ (t:Int)<f:=by omega
   have g5:¬ (s.size:Int)<t:=by omega
   have g6:(r:Int)<3:=by omega
   have g7:(f:Int)≤s.size:=by omega
   clear q0 q1 q2 q3 hU fa7 hnat hnmem
   by_cases hi0:i=0
   ·have fa9:=fa5 hi0
    simp only[Prod.mk.injEq] at fa9
    obtain⟨e1,e2,e3,e4⟩:=fa9
    subst hi0
    have b1:((r:Int) != 0)=false:=by simp;omega
    have b2:((f:Int) != 0)=false:=by simp;omega
    have b3:((t:Int) != (n0:Int))=false:=by simp;omega
    have b4:((d:Int) != 0)=false:=by simp;omega
    clear fa4 fa5 fa6 fa8 e1 e2 e3 e4
    go_wp2_with fail
    go_region_held (fun w'=>w'.cell? ⟨wr.heap.size,0,none⟩=some (.int .i64 r)∧w'.cell? ⟨wr.heap.size,1,none⟩=some (.int .i64 f)∧w'.cell? ⟨w5.heap.size,r,none⟩=some (.string (bs nm))) (go_keep) (first | (go_at_call 28;refine (HMT.out _ ((zc _ _).drew) _ (by rw[HTB.out];apply ByteArray.ext;simp[ByteArray.data_append])).mono ?_;rintro _ w6 ⟨rfl,hb6⟩;have hz6:=hb6.size;simp at hz6;have k0:=HXB.out w6 hb6 0;have k1:=HXB.out w6 hb6 1;have k2:=HXB.out w6 hb6 2;have k3:=HXB.out w6 hb6 3;simp at k0 k1 k2 k3;have kn:=HNM.out w6 hb6;have HB6:=z6 hb6;clear hb6))
    all_goals go_wp2_with fail
    all_goals
     go_roundg (L.length - (0+1))
     case measure=>omega
     case rel=>exact⟨0+1,rfl,by go_num,by omega,HBR.out.trans ((HBF.out w6 HB6.out).mono hzr)⟩
   ·obtain⟨j,rfl⟩:∃ j,i=j+1:=⟨i - 1,by omega⟩
    have hjl:j<L.length:=by omega
    obtain⟨pg2,hpe,hpg3,p0,p1,p2,p3⟩:=HCL.out j hjl
    cases hpe
    obtain⟨r',f',t',d',hLj⟩:∃ r f t d,L[j]=(r,f,t,d):=⟨_,_,_,_,rfl⟩
    have hR:=fa8 (by omega)
    simp only[Nat.add_sub_cancel] at hR
    have hdj:=(HUO.out j hjl).deep
    rw[hLj] at p0 p1 p2 p3 hR hdj
    simp only[] at p0 p1 p2 p3 hdj
    obtain⟨s1,s2,s3,s4⟩:=hR
    simp only[] at s1 s2 s3 s4
    have hft:=fa4 (by omega)
    have HPJ:Hid (∀ w6,Below (wr.alloc (.cells #[.int .i64 r,.int .i64 f,.int .i64 t,.int .i64 d] 60)).drew.heap.size (wr.alloc (.cells #[.int .i64 r,.int .i64 f,.int .i64 t,.int .i64 d] 60)).drew w6→w6.cell? ⟨pg,j * 4,none⟩=some (.int .i64 r')∧w6.cell? ⟨pg,j * 4+1,none⟩=some (.int .i64 f')∧w6.cell? ⟨pg,j * 4+2,none⟩=some (.int .i64 t')∧w6.cell? ⟨pg,j * 4+3,none⟩=some (.int .i64 d')):=z6 (fun w6 hb6=>by
     have h9:=HB3R.out.trans ((HBF.out w6 hb6).mono HB3R.out.size)
     exact⟨by rw[h9.cell (p:=⟨pg,j * 4,none⟩) hpg];exact p0,by rw[h9.cell (p:=⟨pg,j * 4+1,none⟩) hpg];exact p1,by rw[h9.cell (p:=⟨pg,j * 4+2,none⟩) hpg];exact p2,by rw[h9.cell (p:=⟨pg,j * 4+3,none⟩) hpg];exact p3⟩)
    have b5:((t:Int) == (f:Int))=false:=by simp;omega
    have HS:=z6 (⟨s1,s2,s3,s4,hft,hdj⟩ : 1≤d∧d≤d'+1∧(d≤d'→t'≤f)∧(d=d'+1→f'≤f∧t≤t')∧f<t∧d'≤j)
    clear p0 p1 p2 p3 fa4 fa5 fa6 fa8 hLi hLj s1 s2 s3 s4 hft hdj fa1 fa2 fa3 hi0
    go_wp2_with fail
    go_region_held (fun w'=>w'.cell? ⟨wr.heap.size,0,none⟩=some (.int .i64 r)∧w'.cell? ⟨wr.heap.size,1,none⟩=some (.int .i64 f)∧w'.cell? ⟨w5.heap.size,r,none⟩=some (.string (bs nm))) (go_keep) (first | (go_at_call 28;refine (HMT.out _ ((zc _ _).drew) _ (by rw[HTB.out];apply ByteArray.ext;simp[ByteArray.data_append])).mono ?_;rintro _ w6 ⟨rfl,hb6⟩;have hz6:=hb6.size;simp at hz6;have k0:=HXB.out w6 hb6 0;have k1:=HXB.out w6 hb6 1;have k2:=HXB.out w6 hb6 2;have k3:=HXB.out w6 hb6 3;simp at k0 k1 k2 k3;have kn:=HNM.out w6 hb6;have HB6:=z6 hb6;clear hb6))
    all_goals
     obtain⟨m0,m1,m2,m3⟩:=HPJ.out w6 HB6.out
     have hpl:pg<w6.heap.size:=by omega
     have hxl:wr.heap.size<w6.heap.size:=by omega
     obtain⟨s1,s2,s3,s4,hft,hdj⟩:=HS.out
     have i8:(d':Int)+1≤9223372036854775807:=by omega
     have i5:(j:Int)<L.length:=by omega
     have i6:¬ (d:Int)<1:=by omega
     have i7:¬ (d':Int)+1<d:=by omega
     by_cases hdd:d≤d'
     ·have j1:(d:Int)≤d':=by omega
      have hs3:=s3 hdd
      have j2:¬ (f:Int)<t':=by omega
      have j3:((d:Int) == (d':Int)+1)=false:=by simp;omega
      clear s1 s2 s3 s4 hft hdd hs3 hdj
      go_wp2_with fail
      go_roundg (L.length - (j+1+1))
      case measure=>omega
      case rel=>exact⟨j+1+1,rfl,by go_num,by omega,(HBR.out.trans ((HBF.out w6 HB6.out).mono hzr)).alloc (by omega) _⟩
     ·have j1:¬ (d:Int)≤d':=by omega
      have hs4:=s4 (by omega)
      have j2:¬ (f:Int)<f':=by omega
      have j4:¬ (t':Int)<t:=by omega
      have j3:((d:Int) == (d':Int)+1)=true:=by simp;omega
      clear s1 s2 s3 s4 hft hdd hs4 hdj
      go_wp2_with fail
      go_roundg (L.length - (j+1+1))
      case measure=>omega
      case rel=>exact⟨j+1+1,rfl,by go_num,by omega,(HBR.out.trans ((HBF.out w6 HB6.out).mono hzr)).alloc (by omega) _⟩
  ·have hlt':¬ (i:Int)<L.length:=by omega
   go_wp2_with fail
   go_ret
   exact⟨rfl,HBW.out.trans (HBR.out.mono HBW.out.size)⟩
end Go.Proofs.YtiganlkabilblaaGreatDoor
namespace Go.Proofs.YtiganlkabilblaaGreatDoor
open Go.ChangeShapes Go.WideShapes Go.ChangeAt Go.RowKit
theorem zna:ownKnob Tryz.prog.godebug=none:=by kernel_rfl
theorem zn8:laidOutB Tryz.prog=true:=by kernel_rfl
theorem zn7:Tryz.prog.globalNamed "errors.errorType" = some 0:=by kernel_rfl
theorem znb:(Tryz.prog.cutTypes.find? (·.1 == "internal/reflectlite.rtype")).map (·.2)=some 259:=by kernel_rfl
theorem znc:Tryz.prog.types.size=376:=by kernel_rfl
theorem zn9:((List.range 376).filter fun t=>Tryz.prog.rowNamed t [101,114,114,111,114])=[78]:=by kernel_rfl
abbrev zmw:List (String × DataW Unit):=[("errors.errorType", Rows.laid_errors_errorType)]
theorem zmN {W:World} (h:laidMetH Tryz.prog zmw W):QD W:=by
 have h':laidMet Tryz.prog [] W∧handlesMet Tryz.prog zmw W:=h
 obtain⟨name,u,ty,e1,e2,e3,e4,e5⟩:=h'.2 _ (List.mem_singleton.2 rfl)
 have en:name=[101,114,114,111,114]:=(Option.some.inj e1).symm
 subst en
 obtain rfl:=Option.some.inj (znb.symm.trans e2)
 have hm:ty ∈ (List.range 376).filter fun t=>Tryz.prog.rowNamed t [101,114,114,111,114]:=List.mem_filter.2 ⟨List.mem_range.2 (by rw[← znc];exact e3),e4⟩
 rw[zn9] at hm
 obtain rfl:=List.mem_singleton.1 hm
 have hh:typeHandle Tryz.prog 78 = .pointer (some ⟨2,78,none⟩):=by kernel_rfl
 rw[hh] at e5
 unfold QD
 simpa using World.var?_cell zn7 e5 0
theorem zmY {H:Type} {enc:TypeId × Value→H} {W:World} {a0:Option Addr} {len0 cap0:Nat} {d:DataW H} {p:List MemPlace} (h0:DataW.Trod enc Tryz.prog W 0 (fun _=>true) true 40 (.slice a0 len0 cap0) d p):zjX W a0 len0∧len0≤maxLen:=by
 obtain⟨fuel,hf⟩:=h0
 rcases open_ints Tryz.underlying40 Tryz.underlying3 (by kernel_rfl) hf with ⟨hcs,_⟩ | ⟨x,l,c,zs,hcs,_,hl,hm,hz,_,hcell,hwz⟩
 ·simp[Value.cells] at hcs
  obtain⟨rfl,rfl,rfl⟩:=hcs
  exact⟨fun k hk=>by omega,by decide⟩
 ·simp[Value.cells] at hcs
  obtain⟨rfl,rfl,rfl⟩:=hcs
  have hzl:zs.length=cap0:=by simpa using hz
  refine⟨fun k hk=>⟨x,zs.getD k 0,rfl,?_,hcell k (by omega),?_⟩,by omega⟩
  ·exact World.block_lt_of_cell? W _ (hcell k (by omega))
  ·have hw:=hwz (zs.getD k 0) (by rw[List.getD_eq_getElem?_getD,List.getElem?_eq_getElem (by omega)];exact List.getElem_mem _)
   have hw':IntKind.i64.min≤zs.getD k 0∧zs.getD k 0≤IntKind.i64.max:=by simpa [Lit.wf] using hw
   have e1:IntKind.i64.min = -9223372036854775808:=by decide
   have e2:IntKind.i64.max=9223372036854775807:=by decide
   constructor<;>omega
theorem zmT {n:Int} (hn:(Lit.int .i64 n).wf=true):i64 n:=by
 have hw':IntKind.i64.min≤n∧n≤IntKind.i64.max:=by simpa [Lit.wf] using hn
 have e1:IntKind.i64.min = -9223372036854775808:=by decide
 have e2:IntKind.i64.max=9223372036854775807:=by decide
 constructor<;>omega
theorem zn5 (os:Os) (started:os.Started) (H:Type) (enc:TypeId × Value→H) :
    ReturnsInHanded {} Tryz.checked os 12 .any (fun w args=>(Rows.usesSpec.pre enc Tryz.prog Tryz.f12 [] false w args∧laidMetH Tryz.prog zmw w)∧sizedMet enc Tryz.prog Tryz.f12 (OpenSpec.ofChange Rows.usesSpec) false w args)
      (Rows.usesSpec.post enc Tryz.prog Tryz.f12 false true false false):=by
  refine returnsInHanded_of_change_and (C:=Tryz.checked) (X:=fun w _=>laidMetH Tryz.prog zmw w) (fun _ _ _ hh h=>h.of_heap hh) zna started (by kernel_rfl) Tryz.func12
    (ChangeSpec.witness_at (enc:=enc) (C:=Tryz.checked) (os:=os) (X:=fun w _=>laidMetH Tryz.prog zmw w) false
      { World.holding Tryz.prog os ⟨#[], #[], []⟩ with heap := (World.holding Tryz.prog os ⟨#[], #[], []⟩).heap.modify 0 fun
          | .cells _ t frozen=>.cells #[.iface 259 (.agg #[.pointer (some ⟨2,78,none⟩)])] t frozen
          | o=>o }
      #[.slice none 0 0,.int .i64 0,.string ⟨#[]⟩] 8 rfl (by kernel_rfl) (by kernel_rfl) (by kernel_rfl) (by kernel_rfl) (by kernel_rfl) (laidMetH_of_parts (laidMet_nil _ _) (by kernel_rfl))) ?_
  intro W base args ds gs before hval0 hW _ _ hL _
  have hval:∀ (j:Nat) t v,Tryz.f12.params[j]? = some t→args[j]? = some v→Value.okWide Tryz.prog W .any base t v:=hval0
  have hW':=hW
  obtain⟨p,q,hA0,hV0,rfl,hfz,hnd⟩:=hW
  have hA:DataW.TrodAll enc Tryz.prog W 0 (fun _=>true) true Tryz.f12.params.toList args.toList ds p:=hA0
  have hV:DataW.TrodVars enc Tryz.prog W (fun _=>true) [] gs q:=hV0
  rw[Tryz.params12] at hA hval
  obtain⟨v0,vs0,d0,ds0,p0,q0,hargs,rfl,rfl,h0,r0⟩:=trodAll_cons hA
  obtain⟨v1,vs1,d1,ds1,p1,q1,rfl,rfl,rfl,h1,r1⟩:=trodAll_cons r0
  obtain⟨v2,vs2,d2,ds2,p2,q2,rfl,rfl,rfl,h2,r2⟩:=trodAll_cons r1
  obtain⟨rfl,rfl,rfl⟩:=trodAll_nil r2
  obtain rfl:args = #[v0,v1,v2]:=by cases args;simp_all
  obtain⟨rfl,rfl⟩:gs=[]∧q=[]:=by
    cases gs with
    | nil=>exact⟨rfl,hV⟩
    | cons g r=>exact absurd hV (by intro h;cases h)
  obtain⟨a0,len0,cap0,rfl⟩:=okWide_slice Tryz.underlying40 (hval 0 40 v0 rfl rfl)
  have k0:=h0
  have lt0:∀ x ∈ p0,x.block<W.heap.size:=by obtain⟨m,hm⟩:=k0;exact DataW.trod_lt m _ _ _ hm
  obtain⟨hr0,hl0⟩:=zmY h0
  obtain⟨a1,rfl,rfl,rfl,w1⟩:=open_int Tryz.underlying3 (hval 1 3 v1 rfl rfl) h1
  obtain⟨s2,rfl,rfl,rfl,w2⟩:=Go.ChangeMaps.open_string Tryz.underlying9 (hval 2 9 v2 rfl rfl) h2
  refine (zn2 W a0 len0 cap0 a1 s2 hr0 hl0 (zmT w1) w2 (zmN hL)).mono fun e W' ⟨he,bel⟩=>?_
  subst he
  exact⟨_,rfl,_,_,_,[],_,[],hW',trodAll_mk1 (shut_bool Tryz.underlying4 _),(trodAll_cons_mk (Below.trod zn8 (by kernel_rfl) (of_decide_eq_true (by kernel_rfl)) k0 bel lt0) (trodAll_cons_mk (shut_int Tryz.underlying3 w1) (trodAll_cons_mk (Go.ChangeMaps.shut_string Tryz.underlying9 w2) trodAll_mk0))),rfl,bel.frame _,fun h=>by cases h⟩
theorem zn4:Rows.UsesSaid:=
 OpenClaim.holds_of_wide 12 Tryz.f12 rfl rfl rfl rfl rfl rfl rfl ⟨rfl,rfl,rfl,rfl,rfl⟩ rfl rfl rfl rfl rfl (by kernel_rfl) Tryz.func12 (by kernel_rfl)
  (of_decide_eq_true (by kernel_rfl)) (by unfold Func.isWrapper;first | (rw[if_pos (by decide +kernel)];kernel_rfl) | (rw[if_neg (by decide +kernel)];exact⟨rfl,rfl⟩))
  (fun os started H enc _=>zn5 os started H enc)
end Go.Proofs.YtiganlkabilblaaGreatDoor
namespace Go.Proofs.YtiganlkabilblaaGreatDoor
open Go
theorem zn6:Rows.usesRow.laidByTextAt .later Tryz.pinned [.handle] true:=
 OpenClaim.laidByTextAt_later rfl rfl tie (by kernel_rfl)
theorem uses_card:Rows.UsesCardSaid:=
 Claim7.holds_tied_plain_at .later [] [.handle] true (true,Rows.usesCard.stood.harness.2) true
  zn4 (fun _ h=>by cases h) (by kernel_rfl) (fun _ h=>by cases h) zn6 rfl ⟨rfl,rfl⟩ (by kernel_rfl) rfl
  (fun f fn hf hfn=>by
   obtain rfl:f=12:=Option.some.inj ((show Tryz.prog.funcNamed Rows.usesRow.func=some 12 by kernel_rfl).symm.trans hf) |>.symm
   obtain rfl:fn=Tryz.f12:=(Option.some.inj (Tryz.func12.symm.trans hfn)).symm
   exact⟨by kernel_rfl,fun j t ht=>by
    rw[Tryz.params12] at ht
    have h3:t=40∨t=3∨t=9:=by
     rcases j with _ | _ | _ | j
     ·left;simpa using ht.symm
     ·right;left;simpa using ht.symm
     ·right;right;simpa using ht.symm
     ·simp at ht
    rcases h3 with rfl | rfl | rfl
    ·exact (show Tryz.prog.wantsStandIn 40=false by kernel_rfl)
    ·exact (show Tryz.prog.wantsStandIn 3=false by kernel_rfl)
    ·exact (show Tryz.prog.wantsStandIn 9=false by kernel_rfl)⟩)
  (by kernel_rfl)
#print axioms uses_card
end Go.Proofs.YtiganlkabilblaaGreatDoor
