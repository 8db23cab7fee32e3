import Derived.Test.YtiganlkabilblaaGreatDoorVS29
import Derived.Test.YtiganlkabilblaaGreatDoorVS30
import Derived.Test.YtiganlkabilblaaGreatDoorVS31
import Derived.Test.YtiganlkabilblaaGreatDoorVS14
import Derived.Test.YtiganlkabilblaaGreatDoorVS13
import Derived.Laws.AppendOwnNone
import Derived.Deep.Upon
import Derived.Deep.RegionHeldLaw
import Derived.Lib.AppendStr
import Derived.Laws.BytesString
import Derived.Deep.RegionHeld
import Derived.Test.YtiganlkabilblaaGreatDoorVS25
import Derived.BigQuiet
import Derived.Test.YtiganlkabilblaaGreatDoorVS24
import Derived.Laws.OwnMore
import Derived.Deep.CutRange
import Derived.Deep.AppendLies
import Derived.Test.YtiganlkabilblaaGreatDoorRows
import Derived.WalkKit
import Derived.ProofKit
import Derived.OpenShut
import Derived.ShutString
import Derived.ChangeMaps5
import Derived.ChangeOld
import Derived.Below
import Derived.ChangeSame
import Derived.ChangeVars
import Derived.JoinedOf
import Derived.RowKit
import Derived.RowKitTokens
import Derived.LaidLaws
import Derived.LaidHandle
import Derived.Stop.Joined
import Derived.Test.YtiganlkabilblaaGreatDoorTie
import Derived.Test.YtiganlkabilblaaGreatDoorCards
import Derived.SevenTiedAt
set_option linter.all false
set_option maxHeartbeats 64000000
set_option maxRecDepth 100000
namespace Go.Proofs.YtiganlkabilblaaGreatDoor
open Go.RowKit Thk Go.Lib
attribute [local go_sem ↓] Go.wp_at_zero Go.wp_at_succ
theorem zks (s:ByteArray) (w:World) (hs:s.size≤maxLen):Calls Tryz.prog 24 #[.string s] w fun e w'=>∃ s':ByteArray,e = .returned (.string s')∧s'.size≤60∧w'=w:=by
 unfold maxLen at hs
 by_cases h : 60<s.size
 ·have h':(60:Int)<s.size:=by omega
  go_enter Tryz.func24,Tryz.ntmps24
  go_wp2_with fail
  go_ret
  exact⟨_,rfl,by simp[ByteArray.size_extract];omega,rfl⟩
 ·have h':¬ (60:Int)<s.size:=by omega
  go_enter Tryz.func24,Tryz.ntmps24
  go_wp2_with fail
  go_ret
  exact⟨_,rfl,by omega,rfl⟩
section
variable {w0 w : World} {xb : Nat} {T s : ByteArray} {d : Bool}
end
theorem zjX.below {w w':World} {a:Option Addr} {len:Nat} (h:zjX w a len) (hb:Below w.heap.size w w'):zjX w' a len:=fun k hk=>by
 obtain⟨x,c,e,h1,h2,h3⟩:=h k hk
 exact⟨x,c,e,Nat.lt_of_lt_of_le h1 hb.size,by rw[hb.cell (p:=x.add k) h1];exact h2,h3⟩
theorem zmq (n:Option Nat):¬ tkV n < -1:=by
 cases n with
 | none=>simp[tkV]
 | some k=>simp only[tkV];omega
theorem zmf (w:World) (a:Option Addr) (len cap:Nat) (b:Option Addr) (len2 cap2:Nat) (style:Int) (inp:ByteArray) (hr:zjX w a len) (hl:len≤maxLen) (hr2:zjX w b len2) (hl2:len2≤maxLen) (hs:i64 style) (hi:inp.size≤maxLen) (hE:QD w) :
  Calls Tryz.prog 10 #[.slice a len cap,.slice b len2 cap2,.int .i64 style,.string inp] w fun e w'=>e = .returned (.bool true)∧Below w.heap.size w w':=by
 have hx:=zl0 w a len cap style hr hl hs
 have HE:=z6 hE
 have HR2:=z6 hr2
 clear hr hE hr2
 go_enter Tryz.func10,Tryz.ntmps10
 go_wp2_with fail
 refine hx.mono ?_
 rintro _ w1 ⟨⟨x,ex,dx⟩,rfl,hG,hdx,hlx,hb1⟩
 simp only[] at hG hdx hlx
 obtain⟨cx,hPx,hGx⟩:=hG.gt
 have xs:=zjU x
 have hz1:=hb1.size
 have hbA:Below w.heap.size w (w1.alloc (mdO x ex dx)):=hb1.alloc hz1 _
 have HX2:=z6 (zl0 (w1.alloc (mdO x ex dx)) b len2 cap2 style (HR2.out.below hbA) hl2 hs)
 have HBA:=z6 hbA
 have HPX:=z6 hPx
 have HGX:=z6 hGx
 clear hx hG hPx hGx hb1 hbA HR2
 simp only[mdV]
 go_wp2_with fail
 refine HX2.out.mono ?_
 rintro _ w2 ⟨⟨y,ey,dy⟩,rfl,hG2,hdy,hly,hb2⟩
 simp only[] at hG2 hdy hly
 obtain⟨cy,hPy,hGy⟩:=hG2.gt
 have ys:=zjU y
 have hz2:=hb2.size
 simp at hz2
 have hB2:Below w.heap.size w (w2.alloc (mdO y ey dy)):=(HBA.out.trans (hb2.mono HBA.out.size)).alloc (by omega) _
 have hOK:Oks (w2.alloc (mdO y ey dy)) w1.heap.size w2.heap.size x y ex (w2.alloc (mdO y ey dy)):=by
  have hx9:(w2.alloc (mdO y ey dy)).heap[w1.heap.size]? = some (mdO x ex dx):=by
   rw[zm _ _ (by omega),hb2.block _ (by simp)]
   exact zk _ _
  have hy9:=zk w2 (mdO y ey dy)
  exact⟨Below.refl _ _,zd hx9,zd hy9,z8 hx9 0,z8 hx9 1,z8 hy9 0⟩
 have HB2:=z6 hB2
 have HEL:=z6 (HE.out.below hB2)
 have HPY:=z6 hPy
 have HGY:=z6 hGy
 have HO:=z6 hOK
 clear HX2 hG2 hPy hGy hb2 hB2 hOK HBA HE
 simp only[mdV]
 go_wp2_with fail
 refine (zks inp _ hi).mono ?_
 rintro _ w3 ⟨s,rfl,hs60,rfl⟩
 have hix:=HGX.out.names
 have hiy:=HGY.out.names
 have HIX:=z6 hix
 have HIY:=z6 hiy
 clear hix hiy
 have x0:=HO.out.x0
 have x1:=HO.out.x1
 have y0:=HO.out.y0
 have xl:=HO.out.xl
 have yl:=HO.out.yl
 have HTX:=z6 (fun (W:World) (hW:Oks (w2.alloc (mdO y ey dy)) w1.heap.size w2.heap.size x y ex W)=>Oks.takes HEL.out (zkr HPX.out (by omega)) HGX.out (by omega) s hs60 W hW)
 have HTY:=z6 (fun (s':ByteArray) (hs':s'.size≤60) (W:World) (hW:Oks (w2.alloc (mdO y ey dy)) w1.heap.size w2.heap.size x y ex W)=>Oks.takes HEL.out (zkr HPY.out (by omega)) HGY.out (by omega) s' hs' W hW)
 have HTK:=z6 (fun (W:World) (hW:Oks (w2.alloc (mdO y ey dy)) w1.heap.size w2.heap.size x y ex W)=>Oks.takes HEL.out zm3 zm2 (by decide) ⟨#[97,98,99]⟩ (by decide) W hW)
 have HTP:=z6 (fun (W:World) (hW:Oks (w2.alloc (mdO y ey dy)) w1.heap.size w2.heap.size x y ex W)=>Oks.takes HEL.out (zkr (zm1 HPX.out HPY.out) (by omega)) (zm0 HGX.out HGY.out) (by simp[zjN];omega) s hs60 W hW)
 have HTQ:=z6 (fun (W:World) (hW:Oks (w2.alloc (mdO y ey dy)) w1.heap.size w2.heap.size x y ex W)=>Oks.takes HEL.out (zkr (zkJ (b:=[]) (b':=[]) (by simp[z4]) (by simp[z4]) HPX.out HPY.out) (by omega)) (zlZ HGX.out HGY.out) (by simp[zjN];omega) s hs60 W hW)
 have HTR:=z6 (fun (W:World) (hW:Oks (w2.alloc (mdO y ey dy)) w1.heap.size w2.heap.size x y ex W)=>Oks.takes HEL.out (zkr (zkK (b:=[]) 63 (.inl rfl) (by simp[z4]) HPX.out) (by omega)) (zb 0 63 HGX.out (fun _=>by decide)) (by simp[zjN];omega) s hs60 W hW)
 have HTS:=z6 (fun (W:World) (hW:Oks (w2.alloc (mdO y ey dy)) w1.heap.size w2.heap.size x y ex W)=>Oks.takes HEL.out (zkr (zkI (b:=[]) 38 (.inl rfl) (by simp[z4]) HPX.out) (by omega)) (zb 38 0 HGX.out (fun _=>by decide)) (by simp[zjN];omega) s hs60 W hW)
 have HTT:=z6 (fun (W:World) (hW:Oks (w2.alloc (mdO y ey dy)) w1.heap.size w2.heap.size x y ex W)=>Oks.takes HEL.out (zkr (zkI (b:=[]) 33 (.inr rfl) (by simp[z4]) HPX.out) (by omega)) (zb 33 0 HGX.out (fun _=>by decide)) (by simp[zjN];omega) s hs60 W hW)
 go_wp2_with fail
 refine (HTX.out _ HO.out (bs x) rfl).mono ?_
 rintro _ w4 ⟨hO,na,rfl,hTna,hlna,hPna⟩
 clear x0 x1 y0 xl yl HO
 have HO:=z6 hO
 have HTna:=z6 hTna
 have HPna:=z6 hPna
 clear hO hTna hPna
 have x0:=HO.out.x0
 have x1:=HO.out.x1
 have y0:=HO.out.y0
 have xl:=HO.out.xl
 have yl:=HO.out.yl
 go_wp2_with fail
 refine (HTY.out s hs60 _ HO.out (bs y) rfl).mono ?_
 rintro _ w5 ⟨hO,nb,rfl,hTnb,hlnb,hPnb⟩
 clear x0 x1 y0 xl yl HO
 have HO:=z6 hO
 have HTnb:=z6 hTnb
 have HPnb:=z6 hPnb
 clear hO hTnb hPnb
 have x0:=HO.out.x0
 have x1:=HO.out.x1
 have y0:=HO.out.y0
 have xl:=HO.out.xl
 have yl:=HO.out.yl
 go_wp2_with fail
 refine (HTK.out _ HO.out _ rfl).mono ?_
 rintro _ w6 ⟨hO,nk,rfl,hTnk,hlnk,hPnk⟩
 clear x0 x1 y0 xl yl HO
 have HO:=z6 hO
 have HTnk:=z6 hTnk
 have HPnk:=z6 hPnk
 clear hO hTnk hPnk
 have x0:=HO.out.x0
 have x1:=HO.out.x1
 have y0:=HO.out.y0
 have xl:=HO.out.xl
 have yl:=HO.out.yl
 obtain rfl:=zm4 HTnk.out
 clear HTnk hlnk HPnk HTK
 have hvb:=zmq nb
 have htk2:tkV (some 2)=2:=rfl
 simp only[htk2]
 cases na with
 | none=>
  generalize hvbe:tkV nb=vb at *
  simp only[tkV]
  go_wp2_with fail
  refine (HTP.out _ HO.out _ (by apply ByteArray.ext;simp[ByteArray.data_append,brk])).mono ?_
  rintro _ w7 ⟨hO,np,rfl,hTnp,hlnp,hPnp⟩
  clear x0 x1 y0 xl yl HO
  have HO:=z6 hO
  have HTnp:=z6 hTnp
  have HPnp:=z6 hPnp
  clear hO hTnp hPnp
  have x0:=HO.out.x0
  have x1:=HO.out.x1
  have y0:=HO.out.y0
  have xl:=HO.out.xl
  have yl:=HO.out.yl
  have hnp:np=nb:=by
   have:=zlI HTnp.out HTna.out HTnb.out HIX.out HIY.out
   simpa using this
  rw[hnp,hvbe]
  clear hnp HTnp hlnp HPnp
  go_wp2_with fail
  refine (HTQ.out _ HO.out _ (by apply ByteArray.ext;simp[ByteArray.data_append,brk])).mono ?_
  rintro _ w8 ⟨hO,nq,rfl,hTnq,hlnq,hPnq⟩
  clear x0 x1 y0 xl yl HO
  have HO:=z6 hO
  have HTnq:=z6 hTnq
  have HPnq:=z6 hPnq
  clear hO hTnq hPnq
  have x0:=HO.out.x0
  have x1:=HO.out.x1
  have y0:=HO.out.y0
  have xl:=HO.out.xl
  have yl:=HO.out.yl
  obtain rfl:nq=none:=(zlX HTnq.out HTna.out HIX.out HIY.out).1 rfl
  clear HTnq hlnq HPnq
  go_wp2_with fail
  refine (HTR.out _ HO.out _ (by apply ByteArray.ext;simp[ByteArray.data_append,brk])).mono ?_
  rintro _ w9 ⟨hO,nr,rfl,hTnr,hlnr,hPnr⟩
  clear x0 x1 y0 xl yl HO
  have HO:=z6 hO
  have HTnr:=z6 hTnr
  have HPnr:=z6 hPnr
  clear hO hTnr hPnr
  have x0:=HO.out.x0
  have x1:=HO.out.x1
  have y0:=HO.out.y0
  have xl:=HO.out.xl
  have yl:=HO.out.yl
  obtain rfl:nr=some 0:=by
   have:=zlG HTnr.out HTna.out HIX.out
   simpa using this
  clear HTnr hlnr HPnr
  go_wp2_with fail
  refine (HTS.out _ HO.out _ (by apply ByteArray.ext;simp[ByteArray.data_append,brk])).mono ?_
  rintro _ w10 ⟨hO,ns,rfl,hTns,hlns,hPns⟩
  clear x0 x1 y0 xl yl HO
  have HO:=z6 hO
  have HTns:=z6 hTns
  have HPns:=z6 hPns
  clear hO hTns hPns
  have x0:=HO.out.x0
  have x1:=HO.out.x1
  have y0:=HO.out.y0
  have xl:=HO.out.xl
  have yl:=HO.out.yl
  obtain rfl:ns=none:=by
   have:=zlK HTns.out HTna.out HIX.out
   simpa using this
  clear HTns hlns HPns
  go_wp2_with fail
  refine (HTT.out _ HO.out _ (by apply ByteArray.ext;simp[ByteArray.data_append,brk])).mono ?_
  rintro _ w11 ⟨hO,nt,rfl,hTnt,hlnt,hPnt⟩
  clear x0 x1 y0 xl yl HO
  have HO:=z6 hO
  have HTnt:=z6 hTnt
  have HPnt:=z6 hPnt
  clear hO hTnt hPnt
  have x0:=HO.out.x0
  have x1:=HO.out.x1
  have y0:=HO.out.y0
  have xl:=HO.out.xl
  have yl:=HO.out.yl
  obtain rfl:nt=some 0:=by
   have:=zlH HTnt.out HTna.out HIX.out
   simpa using this
  clear HTnt hlnt HPnt
  simp only[tkV]
  cases ex with
  | true=>
   have HLP:=z6 (fun (W:World) (hW:Oks (w2.alloc (mdO y ey dy)) w1.heap.size w2.heap.size x y true W)=>Oks.loop HEL.out (zkr (zkK (b:=[]) 42 (.inr (.inl rfl)) (by simp[z4]) HPX.out) (by omega)) HGX.out (by simp[zjN];omega) W hW)
   go_wp2_with fail
   go_region_held (fun w'=>w'.cell? ⟨w1.heap.size,0,none⟩=some (.string (bs x))) (go_keep) (first | (go_at_call 26;refine (zl6 _).mono ?_;rintro _ _ ⟨rfl,rfl⟩) | (go_at_call 14;refine (HLP.out _ (HO.out.next ((Below.refl _ _).drew)) _ (by apply ByteArray.ext;simp[ByteArray.data_append,brk])).mono ?_;rintro _ w12 ⟨hO,p,rfl⟩;have x9:=hO.x0;have HZ:=z6 (HB2.out.trans (hO.bel.mono HB2.out.size));clear hO))
   all_goals go_wp2_with fail
   all_goals go_ret
   all_goals exact⟨rfl,HZ.out⟩
  | false=>
   obtain⟨E,hPE⟩:=HPna.out
   have HRP:=z6 (fun (W:World) (hW:Oks (w2.alloc (mdO y ey dy)) w1.heap.size w2.heap.size x y false W)=>Oks.repeated HEL.out (zkr HPX.out (by omega)) HGX.out (by omega) hPE s hs60 W hW)
   have HTU:=z6 (fun (W:World) (hW:Oks (w2.alloc (mdO y ey dy)) w1.heap.size w2.heap.size x y false W)=>Oks.takes HEL.out (zkr (zkK (b:=[]) 42 (.inr (.inl rfl)) (by simp[z4]) HPX.out) (by omega)) (zb 0 42 HGX.out (fun h=>by cases h)) (by simp[zjN];omega) s hs60 W hW)
   have HTV:=z6 (fun (W:World) (hW:Oks (w2.alloc (mdO y ey dy)) w1.heap.size w2.heap.size x y false W)=>Oks.takes HEL.out (zkr (zkK (b:=[]) 43 (.inr (.inr rfl)) (by simp[z4]) HPX.out) (by omega)) (zb 0 43 HGX.out (fun h=>by cases h)) (by simp[zjN];omega) s hs60 W hW)
   clear hPE
   go_wp2_with fail
   refine (HRP.out _ HO.out).mono ?_
   rintro _ w12 ⟨hO,ea,en,ep,rfl,hea,hen,hRq,hcs⟩
   clear x0 x1 y0 xl yl HO
   have HO:=z6 hO
   have HRQ:=z6 hRq
   have HCS:=z6 hcs
   clear hO hRq hcs HRP
   have x0:=HO.out.x0
   have x1:=HO.out.x1
   have y0:=HO.out.y0
   have xl:=HO.out.xl
   have yl:=HO.out.yl
   go_wp2_with fail
   refine (HTU.out _ HO.out _ (by apply ByteArray.ext;simp[ByteArray.data_append,brk])).mono ?_
   rintro _ w13 ⟨hO,nu,rfl,hTnu,hlnu,hPnu⟩
   clear x0 x1 y0 xl yl HO
   have HO:=z6 hO
   have HTnu:=z6 hTnu
   have HPnu:=z6 hPnu
   clear hO hTnu hPnu
   have x0:=HO.out.x0
   have x1:=HO.out.x1
   have y0:=HO.out.y0
   have xl:=HO.out.xl
   have yl:=HO.out.yl
   go_wp2_with fail
   refine (HTV.out _ HO.out _ (by apply ByteArray.ext;simp[ByteArray.data_append,brk])).mono ?_
   rintro _ w14 ⟨hO,nv,rfl,hTnv,hlnv,hPnv⟩
   clear x0 x1 y0 xl yl HO
   have HO:=z6 hO
   have HTnv:=z6 hTnv
   have HPnv:=z6 hPnv
   clear hO hTnv hPnv
   have x0:=HO.out.x0
   have x1:=HO.out.x1
   have y0:=HO.out.y0
   have xl:=HO.out.xl
   have yl:=HO.out.yl
   have hnu:=zlL HTnu.out HRQ.out HIX.out
   have hnv:=zlJ HTnv.out HRQ.out HIX.out
   have HZ:=z6 (HB2.out.trans (HO.out.bel.mono HB2.out.size))
   have hcs:=HCS.out
   clear HTnu HTnv hlnu hlnv HPnu HPnv HRQ HCS x0 x1 y0 xl yl
   rcases hcs with ⟨rfl,rfl,rfl⟩ | ⟨hen0,rfl⟩
   ·simp only[Option.getD_none] at hnu
    subst hnu
    subst hnv
    simp only[tkV]
    go_wp2_with fail
    all_goals go_ret
    all_goals exact⟨by simp,HZ.out⟩
   ·simp only[Option.getD_some] at hnu
    subst hnu
    subst hnv
    have hen1:(0:Int)<en:=by omega
    simp only[tkV]
    go_wp2_with fail
    all_goals go_ret
    all_goals exact⟨by simp,HZ.out⟩
 | some ka=>
  have hka:=hlna ka rfl
  have hka':(ka:Int)≤s.size:=by omega
  have hka1:¬ (ka:Int) < -1:=by omega
  have hka2:¬ (ka:Int)<0:=by omega
  generalize hvbe:tkV nb=vb at *
  simp only[tkV]
  have HTC:=z6 (fun (W:World) (hW:Oks (w2.alloc (mdO y ey dy)) w1.heap.size w2.heap.size x y ex W)=>HTY.out (s.extract ka s.size) (by rw[ByteArray.size_extract];omega) W hW (bs y) rfl)
  go_wp2_with fail
  go_region_held (fun w'=>w'.cell? ⟨w2.heap.size,0,none⟩=some (.string (bs y))) (go_keep) (first | (go_at_call 25;refine (HTC.out _ (HO.out.next ((Below.refl _ _).drew))).mono ?_;rintro _ w16 ⟨hO,nc,rfl,hTnc,hlnc,hPnc⟩;have y9:=hO.y0;have HO6:=z6 hO;have HTnc:=z6 hTnc;clear hO hTnc hPnc))
  clear x0 x1 y0 xl yl HO
  have HO:=HO6
  clear HO6
  have x0:=HO.out.x0
  have x1:=HO.out.x1
  have y0:=HO.out.y0
  have xl:=HO.out.xl
  have yl:=HO.out.yl
  have hcq:∀ nq,Tk [[.mk 0 (.group cx) 0,.mk 0 (.group cy) 0]] s.data.toList nq→nq=nc.map (ka + ·):=fun nq h=>(zlX h HTna.out HIX.out HIY.out).2 ka nc rfl (by have:=HTnc.out;rw[zlM] at this;exact this)
  have HCQ:=z6 hcq
  clear hcq HTnc
  cases nc with
  | none=>
   simp only[tkV]
   go_wp2_with fail
   refine (HTP.out _ HO.out _ (by apply ByteArray.ext;simp[ByteArray.data_append,brk])).mono ?_
   rintro _ w7 ⟨hO,np,rfl,hTnp,hlnp,hPnp⟩
   clear x0 x1 y0 xl yl HO
   have HO:=z6 hO
   have HTnp:=z6 hTnp
   have HPnp:=z6 hPnp
   clear hO hTnp hPnp
   have x0:=HO.out.x0
   have x1:=HO.out.x1
   have y0:=HO.out.y0
   have xl:=HO.out.xl
   have yl:=HO.out.yl
   obtain rfl:np=some ka:=by
    have:=zlI HTnp.out HTna.out HTnb.out HIX.out HIY.out
    simpa using this
   clear HTnp hlnp HPnp
   go_wp2_with fail
   refine (HTQ.out _ HO.out _ (by apply ByteArray.ext;simp[ByteArray.data_append,brk])).mono ?_
   rintro _ w8 ⟨hO,nq,rfl,hTnq,hlnq,hPnq⟩
   clear x0 x1 y0 xl yl HO
   have HO:=z6 hO
   have HTnq:=z6 hTnq
   have HPnq:=z6 hPnq
   clear hO hTnq hPnq
   have x0:=HO.out.x0
   have x1:=HO.out.x1
   have y0:=HO.out.y0
   have xl:=HO.out.xl
   have yl:=HO.out.yl
   obtain rfl:nq=none:=HCQ.out _ HTnq.out
   clear HTnq hlnq HPnq
   go_wp2_with fail
   refine (HTR.out _ HO.out _ (by apply ByteArray.ext;simp[ByteArray.data_append,brk])).mono ?_
   rintro _ w9 ⟨hO,nr,rfl,hTnr,hlnr,hPnr⟩
   clear x0 x1 y0 xl yl HO
   have HO:=z6 hO
   have HTnr:=z6 hTnr
   have HPnr:=z6 hPnr
   clear hO hTnr hPnr
   have x0:=HO.out.x0
   have x1:=HO.out.x1
   have y0:=HO.out.y0
   have xl:=HO.out.xl
   have yl:=HO.out.yl
   obtain rfl:nr=some ka:=by
    have:=zlG HTnr.out HTna.out HIX.out
    simpa using this
   clear HTnr hlnr HPnr
   go_wp2_with fail
   refine (HTS.out _ HO.out _ (by apply ByteArray.ext;simp[ByteArray.data_append,brk])).mono ?_
   rintro _ w10 ⟨hO,ns,rfl,hTns,hlns,hPns⟩
   clear x0 x1 y0 xl yl HO
   have HO:=z6 hO
   have HTns:=z6 hTns
   have HPns:=z6 hPns
   clear hO hTns hPns
   have x0:=HO.out.x0
   have x1:=HO.out.x1
   have y0:=HO.out.y0
   have xl:=HO.out.xl
   have yl:=HO.out.yl
   obtain rfl:ns=some 0:=by
    have:=zlK HTns.out HTna.out HIX.out
    simpa using this
   clear HTns hlns HPns
   go_wp2_with fail
   refine (HTT.out _ HO.out _ (by apply ByteArray.ext;simp[ByteArray.data_append,brk])).mono ?_
   rintro _ w11 ⟨hO,nt,rfl,hTnt,hlnt,hPnt⟩
   clear x0 x1 y0 xl yl HO
   have HO:=z6 hO
   have HTnt:=z6 hTnt
   have HPnt:=z6 hPnt
   clear hO hTnt hPnt
   have x0:=HO.out.x0
   have x1:=HO.out.x1
   have y0:=HO.out.y0
   have xl:=HO.out.xl
   have yl:=HO.out.yl
   obtain rfl:nt=none:=by
    have:=zlH HTnt.out HTna.out HIX.out
    simpa using this
   clear HTnt hlnt HPnt
   simp only[tkV]
   cases ex with
   | true=>
    have HLP:=z6 (fun (W:World) (hW:Oks (w2.alloc (mdO y ey dy)) w1.heap.size w2.heap.size x y true W)=>Oks.loop HEL.out (zkr (zkK (b:=[]) 42 (.inr (.inl rfl)) (by simp[z4]) HPX.out) (by omega)) HGX.out (by simp[zjN];omega) W hW)
    go_wp2_with fail
    go_region_held (fun w'=>w'.cell? ⟨w1.heap.size,0,none⟩=some (.string (bs x))) (go_keep) (first | (go_at_call 26;refine (zl6 _).mono ?_;rintro _ _ ⟨rfl,rfl⟩) | (go_at_call 14;refine (HLP.out _ (HO.out.next ((Below.refl _ _).drew)) _ (by apply ByteArray.ext;simp[ByteArray.data_append,brk])).mono ?_;rintro _ w12 ⟨hO,p,rfl⟩;have x9:=hO.x0;have HZ:=z6 (HB2.out.trans (hO.bel.mono HB2.out.size));clear hO))
    all_goals go_wp2_with fail
    all_goals go_ret
    all_goals exact⟨rfl,HZ.out⟩
   | false=>
    obtain⟨E,hPE⟩:=HPna.out
    have HRP:=z6 (fun (W:World) (hW:Oks (w2.alloc (mdO y ey dy)) w1.heap.size w2.heap.size x y false W)=>Oks.repeated HEL.out (zkr HPX.out (by omega)) HGX.out (by omega) hPE s hs60 W hW)
    have HTU:=z6 (fun (W:World) (hW:Oks (w2.alloc (mdO y ey dy)) w1.heap.size w2.heap.size x y false W)=>Oks.takes HEL.out (zkr (zkK (b:=[]) 42 (.inr (.inl rfl)) (by simp[z4]) HPX.out) (by omega)) (zb 0 42 HGX.out (fun h=>by cases h)) (by simp[zjN];omega) s hs60 W hW)
    have HTV:=z6 (fun (W:World) (hW:Oks (w2.alloc (mdO y ey dy)) w1.heap.size w2.heap.size x y false W)=>Oks.takes HEL.out (zkr (zkK (b:=[]) 43 (.inr (.inr rfl)) (by simp[z4]) HPX.out) (by omega)) (zb 0 43 HGX.out (fun h=>by cases h)) (by simp[zjN];omega) s hs60 W hW)
    clear hPE
    go_wp2_with fail
    refine (HRP.out _ HO.out).mono ?_
    rintro _ w12 ⟨hO,ea,en,ep,rfl,hea,hen,hRq,hcs⟩
    clear x0 x1 y0 xl yl HO
    have HO:=z6 hO
    have HRQ:=z6 hRq
    have HCS:=z6 hcs
    clear hO hRq hcs HRP
    have x0:=HO.out.x0
    have x1:=HO.out.x1
    have y0:=HO.out.y0
    have xl:=HO.out.xl
    have yl:=HO.out.yl
    go_wp2_with fail
    refine (HTU.out _ HO.out _ (by apply ByteArray.ext;simp[ByteArray.data_append,brk])).mono ?_
    rintro _ w13 ⟨hO,nu,rfl,hTnu,hlnu,hPnu⟩
    clear x0 x1 y0 xl yl HO
    have HO:=z6 hO
    have HTnu:=z6 hTnu
    have HPnu:=z6 hPnu
    clear hO hTnu hPnu
    have x0:=HO.out.x0
    have x1:=HO.out.x1
    have y0:=HO.out.y0
    have xl:=HO.out.xl
    have yl:=HO.out.yl
    go_wp2_with fail
    refine (HTV.out _ HO.out _ (by apply ByteArray.ext;simp[ByteArray.data_append,brk])).mono ?_
    rintro _ w14 ⟨hO,nv,rfl,hTnv,hlnv,hPnv⟩
    clear x0 x1 y0 xl yl HO
    have HO:=z6 hO
    have HTnv:=z6 hTnv
    have HPnv:=z6 hPnv
    clear hO hTnv hPnv
    have x0:=HO.out.x0
    have x1:=HO.out.x1
    have y0:=HO.out.y0
    have xl:=HO.out.xl
    have yl:=HO.out.yl
    have hnu:=zlL HTnu.out HRQ.out HIX.out
    have hnv:=zlJ HTnv.out HRQ.out HIX.out
    have HZ:=z6 (HB2.out.trans (HO.out.bel.mono HB2.out.size))
    have hcs:=HCS.out
    clear HTnu HTnv hlnu hlnv HPnu HPnv HRQ HCS x0 x1 y0 xl yl
    rcases hcs with ⟨rfl,rfl,rfl⟩ | ⟨hen0,rfl⟩
    ·simp only[Option.getD_none] at hnu
     subst hnu
     subst hnv
     simp only[tkV]
     go_wp2_with fail
     all_goals go_ret
     all_goals exact⟨by simp,HZ.out⟩
    ·simp only[Option.getD_some] at hnu
     subst hnu
     subst hnv
     have hen1:(0:Int)<en:=by omega
     simp only[tkV]
     go_wp2_with fail
     all_goals go_ret
     all_goals exact⟨by simp,HZ.out⟩
  | some kc=>
   have hkc:=hlnc kc rfl
   rw[ByteArray.size_extract] at hkc
   have hkc2:¬ (kc:Int)<0:=by omega
   simp only[tkV]
   go_wp2_with fail
   refine (HTP.out _ HO.out _ (by apply ByteArray.ext;simp[ByteArray.data_append,brk])).mono ?_
   rintro _ w7 ⟨hO,np,rfl,hTnp,hlnp,hPnp⟩
   clear x0 x1 y0 xl yl HO
   have HO:=z6 hO
   have HTnp:=z6 hTnp
   have HPnp:=z6 hPnp
   clear hO hTnp hPnp
   have x0:=HO.out.x0
   have x1:=HO.out.x1
   have y0:=HO.out.y0
   have xl:=HO.out.xl
   have yl:=HO.out.yl
   obtain rfl:np=some ka:=by
    have:=zlI HTnp.out HTna.out HTnb.out HIX.out HIY.out
    simpa using this
   clear HTnp hlnp HPnp
   go_wp2_with fail
   refine (HTQ.out _ HO.out _ (by apply ByteArray.ext;simp[ByteArray.data_append,brk])).mono ?_
   rintro _ w8 ⟨hO,nq,rfl,hTnq,hlnq,hPnq⟩
   clear x0 x1 y0 xl yl HO
   have HO:=z6 hO
   have HTnq:=z6 hTnq
   have HPnq:=z6 hPnq
   clear hO hTnq hPnq
   have x0:=HO.out.x0
   have x1:=HO.out.x1
   have y0:=HO.out.y0
   have xl:=HO.out.xl
   have yl:=HO.out.yl
   obtain rfl:nq=some (ka+kc):=HCQ.out _ HTnq.out
   clear HTnq hlnq HPnq
   go_wp2_with fail
   refine (HTR.out _ HO.out _ (by apply ByteArray.ext;simp[ByteArray.data_append,brk])).mono ?_
   rintro _ w9 ⟨hO,nr,rfl,hTnr,hlnr,hPnr⟩
   clear x0 x1 y0 xl yl HO
   have HO:=z6 hO
   have HTnr:=z6 hTnr
   have HPnr:=z6 hPnr
   clear hO hTnr hPnr
   have x0:=HO.out.x0
   have x1:=HO.out.x1
   have y0:=HO.out.y0
   have xl:=HO.out.xl
   have yl:=HO.out.yl
   obtain rfl:nr=some ka:=by
    have:=zlG HTnr.out HTna.out HIX.out
    simpa using this
   clear HTnr hlnr HPnr
   go_wp2_with fail
   refine (HTS.out _ HO.out _ (by apply ByteArray.ext;simp[ByteArray.data_append,brk])).mono ?_
   rintro _ w10 ⟨hO,ns,rfl,hTns,hlns,hPns⟩
   clear x0 x1 y0 xl yl HO
   have HO:=z6 hO
   have HTns:=z6 hTns
   have HPns:=z6 hPns
   clear hO hTns hPns
   have x0:=HO.out.x0
   have x1:=HO.out.x1
   have y0:=HO.out.y0
   have xl:=HO.out.xl
   have yl:=HO.out.yl
   obtain rfl:ns=some 0:=by
    have:=zlK HTns.out HTna.out HIX.out
    simpa using this
   clear HTns hlns HPns
   go_wp2_with fail
   refine (HTT.out _ HO.out _ (by apply ByteArray.ext;simp[ByteArray.data_append,brk])).mono ?_
   rintro _ w11 ⟨hO,nt,rfl,hTnt,hlnt,hPnt⟩
   clear x0 x1 y0 xl yl HO
   have HO:=z6 hO
   have HTnt:=z6 hTnt
   have HPnt:=z6 hPnt
   clear hO hTnt hPnt
   have x0:=HO.out.x0
   have x1:=HO.out.x1
   have y0:=HO.out.y0
   have xl:=HO.out.xl
   have yl:=HO.out.yl
   obtain rfl:nt=none:=by
    have:=zlH HTnt.out HTna.out HIX.out
    simpa using this
   clear HTnt hlnt HPnt
   simp only[tkV]
   cases ex with
   | true=>
    have HLP:=z6 (fun (W:World) (hW:Oks (w2.alloc (mdO y ey dy)) w1.heap.size w2.heap.size x y true W)=>Oks.loop HEL.out (zkr (zkK (b:=[]) 42 (.inr (.inl rfl)) (by simp[z4]) HPX.out) (by omega)) HGX.out (by simp[zjN];omega) W hW)
    go_wp2_with fail
    go_region_held (fun w'=>w'.cell? ⟨w1.heap.size,0,none⟩=some (.string (bs x))) (go_keep) (first | (go_at_call 26;refine (zl6 _).mono ?_;rintro _ _ ⟨rfl,rfl⟩) | (go_at_call 14;refine (HLP.out _ (HO.out.next ((Below.refl _ _).drew)) _ (by apply ByteArray.ext;simp[ByteArray.data_append,brk])).mono ?_;rintro _ w12 ⟨hO,p,rfl⟩;have x9:=hO.x0;have HZ:=z6 (HB2.out.trans (hO.bel.mono HB2.out.size));clear hO))
    all_goals go_wp2_with fail
    all_goals go_ret
    all_goals exact⟨rfl,HZ.out⟩
   | false=>
    obtain⟨E,hPE⟩:=HPna.out
    have HRP:=z6 (fun (W:World) (hW:Oks (w2.alloc (mdO y ey dy)) w1.heap.size w2.heap.size x y false W)=>Oks.repeated HEL.out (zkr HPX.out (by omega)) HGX.out (by omega) hPE s hs60 W hW)
    have HTU:=z6 (fun (W:World) (hW:Oks (w2.alloc (mdO y ey dy)) w1.heap.size w2.heap.size x y false W)=>Oks.takes HEL.out (zkr (zkK (b:=[]) 42 (.inr (.inl rfl)) (by simp[z4]) HPX.out) (by omega)) (zb 0 42 HGX.out (fun h=>by cases h)) (by simp[zjN];omega) s hs60 W hW)
    have HTV:=z6 (fun (W:World) (hW:Oks (w2.alloc (mdO y ey dy)) w1.heap.size w2.heap.size x y false W)=>Oks.takes HEL.out (zkr (zkK (b:=[]) 43 (.inr (.inr rfl)) (by simp[z4]) HPX.out) (by omega)) (zb 0 43 HGX.out (fun h=>by cases h)) (by simp[zjN];omega) s hs60 W hW)
    clear hPE
    go_wp2_with fail
    refine (HRP.out _ HO.out).mono ?_
    rintro _ w12 ⟨hO,ea,en,ep,rfl,hea,hen,hRq,hcs⟩
    clear x0 x1 y0 xl yl HO
    have HO:=z6 hO
    have HRQ:=z6 hRq
    have HCS:=z6 hcs
    clear hO hRq hcs HRP
    have x0:=HO.out.x0
    have x1:=HO.out.x1
    have y0:=HO.out.y0
    have xl:=HO.out.xl
    have yl:=HO.out.yl
    go_wp2_with fail
    refine (HTU.out _ HO.out _ (by apply ByteArray.ext;simp[ByteArray.data_append,brk])).mono ?_
    rintro _ w13 ⟨hO,nu,rfl,hTnu,hlnu,hPnu⟩
    clear x0 x1 y0 xl yl HO
    have HO:=z6 hO
    have HTnu:=z6 hTnu
    have HPnu:=z6 hPnu
    clear hO hTnu hPnu
    have x0:=HO.out.x0
    have x1:=HO.out.x1
    have y0:=HO.out.y0
    have xl:=HO.out.xl
    have yl:=HO.out.yl
    go_wp2_with fail
    refine (HTV.out _ HO.out _ (by apply ByteArray.ext;simp[ByteArray.data_append,brk])).mono ?_
    rintro _ w14 ⟨hO,nv,rfl,hTnv,hlnv,hPnv⟩
    clear x0 x1 y0 xl yl HO
    have HO:=z6 hO
    have HTnv:=z6 hTnv
    have HPnv:=z6 hPnv
    clear hO hTnv hPnv
    have x0:=HO.out.x0
    have x1:=HO.out.x1
    have y0:=HO.out.y0
    have xl:=HO.out.xl
    have yl:=HO.out.yl
    have hnu:=zlL HTnu.out HRQ.out HIX.out
    have hnv:=zlJ HTnv.out HRQ.out HIX.out
    have HZ:=z6 (HB2.out.trans (HO.out.bel.mono HB2.out.size))
    have hcs:=HCS.out
    clear HTnu HTnv hlnu hlnv HPnu HPnv HRQ HCS x0 x1 y0 xl yl
    rcases hcs with ⟨rfl,rfl,rfl⟩ | ⟨hen0,rfl⟩
    ·simp only[Option.getD_none] at hnu
     subst hnu
     subst hnv
     simp only[tkV]
     go_wp2_with fail
     all_goals go_ret
     all_goals exact⟨by simp,HZ.out⟩
    ·simp only[Option.getD_some] at hnu
     subst hnu
     subst hnv
     have hen1:(0:Int)<en:=by omega
     simp only[tkV]
     go_wp2_with fail
     all_goals go_ret
     all_goals exact⟨by simp,HZ.out⟩
end Go.Proofs.YtiganlkabilblaaGreatDoor
namespace Go.Proofs.YtiganlkabilblaaGreatDoor
open Go.ChangeShapes Go.WideShapes Go.ChangeAt Go.RowKit
theorem zmn:ownKnob Tryz.prog.godebug=none:=by kernel_rfl
theorem zlV:laidOutB Tryz.prog=true:=by kernel_rfl
theorem zml:Tryz.prog.globalNamed "errors.errorType" = some 0:=by kernel_rfl
theorem zmo:(Tryz.prog.cutTypes.find? (·.1 == "internal/reflectlite.rtype")).map (·.2)=some 259:=by kernel_rfl
theorem zmp:Tryz.prog.types.size=376:=by kernel_rfl
theorem zmm:((List.range 376).filter fun t=>Tryz.prog.rowNamed t [101,114,114,111,114])=[78]:=by kernel_rfl
abbrev zlC:List (String × DataW Unit):=[("errors.errorType", Rows.laid_errors_errorType)]
theorem zm7 {W:World} (h:laidMetH Tryz.prog zlC W):QD W:=by
 have h':laidMet Tryz.prog [] W∧handlesMet Tryz.prog zlC W:=h
 obtain⟨name,u,ty,e1,e2,e3,e4,e5⟩:=h'.2 _ (List.mem_singleton.2 rfl)
 have en:name=[101,114,114,111,114]:=(Option.some.inj e1).symm
 subst en
 obtain rfl:=Option.some.inj (zmo.symm.trans e2)
 have hm:ty ∈ (List.range 376).filter fun t=>Tryz.prog.rowNamed t [101,114,114,111,114]:=List.mem_filter.2 ⟨List.mem_range.2 (by rw[← zmp];exact e3),e4⟩
 rw[zmm] at hm
 obtain rfl:=List.mem_singleton.1 hm
 have hh:typeHandle Tryz.prog 78 = .pointer (some ⟨2,78,none⟩):=by kernel_rfl
 rw[hh] at e5
 unfold QD
 simpa using World.var?_cell zml e5 0
theorem zlQ {H:Type} {enc:TypeId × Value→H} {W:World} {a0:Option Addr} {len0 cap0:Nat} {d:DataW H} {p:List MemPlace} (h0:DataW.Trod enc Tryz.prog W 0 (fun _=>true) true 40 (.slice a0 len0 cap0) d p):zjX W a0 len0∧len0≤maxLen:=by
 obtain⟨fuel,hf⟩:=h0
 rcases open_ints Tryz.underlying40 Tryz.underlying3 (by kernel_rfl) hf with ⟨hcs,_⟩ | ⟨x,l,c,zs,hcs,_,hl,hm,hz,_,hcell,hwz⟩
 ·simp[Value.cells] at hcs
  obtain⟨rfl,rfl,rfl⟩:=hcs
  exact⟨fun k hk=>by omega,by decide⟩
 ·simp[Value.cells] at hcs
  obtain⟨rfl,rfl,rfl⟩:=hcs
  have hzl:zs.length=cap0:=by simpa using hz
  refine⟨fun k hk=>⟨x,zs.getD k 0,rfl,?_,hcell k (by omega),?_⟩,by omega⟩
  ·exact World.block_lt_of_cell? W _ (hcell k (by omega))
  ·have hw:=hwz (zs.getD k 0) (by rw[List.getD_eq_getElem?_getD,List.getElem?_eq_getElem (by omega)];exact List.getElem_mem _)
   have hw':IntKind.i64.min≤zs.getD k 0∧zs.getD k 0≤IntKind.i64.max:=by simpa [Lit.wf] using hw
   have e1:IntKind.i64.min = -9223372036854775808:=by decide
   have e2:IntKind.i64.max=9223372036854775807:=by decide
   constructor<;>omega
theorem zm9 {n:Int} (hn:(Lit.int .i64 n).wf=true):i64 n:=by
 have hw':IntKind.i64.min≤n∧n≤IntKind.i64.max:=by simpa [Lit.wf] using hn
 have e1:IntKind.i64.min = -9223372036854775808:=by decide
 have e2:IntKind.i64.max=9223372036854775807:=by decide
 constructor<;>omega
theorem zmj (os:Os) (started:os.Started) (H:Type) (enc:TypeId × Value→H) :
    ReturnsInHanded {} Tryz.checked os 10 .any (fun w args=>(Rows.signedSpec.pre enc Tryz.prog Tryz.f10 [] false w args∧laidMetH Tryz.prog zlC w)∧sizedMet enc Tryz.prog Tryz.f10 (OpenSpec.ofChange Rows.signedSpec) false w args)
      (Rows.signedSpec.post enc Tryz.prog Tryz.f10 false true false false):=by
  refine returnsInHanded_of_change_and (C:=Tryz.checked) (X:=fun w _=>laidMetH Tryz.prog zlC w) (fun _ _ _ hh h=>h.of_heap hh) zmn started (by kernel_rfl) Tryz.func10
    (ChangeSpec.witness_at (enc:=enc) (C:=Tryz.checked) (os:=os) (X:=fun w _=>laidMetH Tryz.prog zlC w) false
      { World.holding Tryz.prog os ⟨#[], #[], []⟩ with heap := (World.holding Tryz.prog os ⟨#[], #[], []⟩).heap.modify 0 fun
          | .cells _ t frozen=>.cells #[.iface 259 (.agg #[.pointer (some ⟨2,78,none⟩)])] t frozen
          | o=>o }
      #[.slice none 0 0,.slice none 0 0,.int .i64 0,.string ⟨#[]⟩] 8 rfl (by kernel_rfl) (by kernel_rfl) (by kernel_rfl) (by kernel_rfl) (by kernel_rfl) (laidMetH_of_parts (laidMet_nil _ _) (by kernel_rfl))) ?_
  intro W base args ds gs before hval0 hW _ _ hL _
  have hval:∀ (j:Nat) t v,Tryz.f10.params[j]? = some t→args[j]? = some v→Value.okWide Tryz.prog W .any base t v:=hval0
  have hW':=hW
  obtain⟨p,q,hA0,hV0,rfl,hfz,hnd⟩:=hW
  have hA:DataW.TrodAll enc Tryz.prog W 0 (fun _=>true) true Tryz.f10.params.toList args.toList ds p:=hA0
  have hV:DataW.TrodVars enc Tryz.prog W (fun _=>true) [] gs q:=hV0
  rw[Tryz.params10] at hA hval
  obtain⟨v0,vs0,d0,ds0,p0,q0,hargs,rfl,rfl,h0,r0⟩:=trodAll_cons hA
  obtain⟨v1,vs1,d1,ds1,p1,q1,rfl,rfl,rfl,h1,r1⟩:=trodAll_cons r0
  obtain⟨v2,vs2,d2,ds2,p2,q2,rfl,rfl,rfl,h2,r2⟩:=trodAll_cons r1
  obtain⟨v3,vs3,d3,ds3,p3,q3,rfl,rfl,rfl,h3,r3⟩:=trodAll_cons r2
  obtain⟨rfl,rfl,rfl⟩:=trodAll_nil r3
  obtain rfl:args = #[v0,v1,v2,v3]:=by cases args;simp_all
  obtain⟨rfl,rfl⟩:gs=[]∧q=[]:=by
    cases gs with
    | nil=>exact⟨rfl,hV⟩
    | cons g r=>exact absurd hV (by intro h;cases h)
  obtain⟨a0,len0,cap0,rfl⟩:=okWide_slice Tryz.underlying40 (hval 0 40 v0 rfl rfl)
  obtain⟨a1,len1,cap1,rfl⟩:=okWide_slice Tryz.underlying40 (hval 1 40 v1 rfl rfl)
  have k0:=h0
  have lt0:∀ x ∈ p0,x.block<W.heap.size:=by obtain⟨m,hm⟩:=k0;exact DataW.trod_lt m _ _ _ hm
  have k1:=h1
  have lt1:∀ x ∈ p1,x.block<W.heap.size:=by obtain⟨m,hm⟩:=k1;exact DataW.trod_lt m _ _ _ hm
  obtain⟨hr0,hl0⟩:=zlQ h0
  obtain⟨hr1,hl1⟩:=zlQ h1
  obtain⟨a2,rfl,rfl,rfl,w2⟩:=open_int Tryz.underlying3 (hval 2 3 v2 rfl rfl) h2
  obtain⟨s3,rfl,rfl,rfl,w3⟩:=Go.ChangeMaps.open_string Tryz.underlying9 (hval 3 9 v3 rfl rfl) h3
  refine (zmf W a0 len0 cap0 a1 len1 cap1 a2 s3 hr0 hl0 hr1 hl1 (zm9 w2) w3 (zm7 hL)).mono fun e W' ⟨he,bel⟩=>?_
  subst he
  exact⟨_,rfl,_,_,_,[],_,[],hW',trodAll_mk1 (shut_bool Tryz.underlying4 _),(trodAll_cons_mk (Below.trod zlV (by kernel_rfl) (of_decide_eq_true (by kernel_rfl)) k0 bel lt0) (trodAll_cons_mk (Below.trod zlV (by kernel_rfl) (of_decide_eq_true (by kernel_rfl)) k1 bel lt1) (trodAll_cons_mk (shut_int Tryz.underlying3 w2) (trodAll_cons_mk (Go.ChangeMaps.shut_string Tryz.underlying9 w3) trodAll_mk0)))),rfl,bel.frame _,fun h=>by cases h⟩
theorem zmi:Rows.SignedSaid:=
 OpenClaim.holds_of_wide 10 Tryz.f10 rfl rfl rfl rfl rfl rfl rfl ⟨rfl,rfl,rfl,rfl,rfl⟩ rfl rfl rfl rfl rfl (by kernel_rfl) Tryz.func10 (by kernel_rfl)
  (of_decide_eq_true (by kernel_rfl)) (by unfold Func.isWrapper;first | (rw[if_pos (by decide +kernel)];kernel_rfl) | (rw[if_neg (by decide +kernel)];exact⟨rfl,rfl⟩))
  (fun os started H enc _=>zmj os started H enc)
end Go.Proofs.YtiganlkabilblaaGreatDoor
namespace Go.Proofs.YtiganlkabilblaaGreatDoor
open Go
theorem zmk:Rows.signedRow.laidByTextAt .later Tryz.pinned [.handle] true:=
 OpenClaim.laidByTextAt_later rfl rfl tie (by kernel_rfl)
theorem signed_card:Rows.SignedCardSaid:=
 Claim7.holds_tied_plain_at .later [] [.handle] true (true,Rows.signedCard.stood.harness.2) true
  zmi (fun _ h=>by cases h) (by kernel_rfl) (fun _ h=>by cases h) zmk rfl ⟨rfl,rfl⟩ (by kernel_rfl) rfl
  (fun f fn hf hfn=>by
   obtain rfl:f=10:=Option.some.inj ((show Tryz.prog.funcNamed Rows.signedRow.func=some 10 by kernel_rfl).symm.trans hf) |>.symm
   obtain rfl:fn=Tryz.f10:=(Option.some.inj (Tryz.func10.symm.trans hfn)).symm
   exact⟨by kernel_rfl,fun j t ht=>by
    rw[Tryz.params10] at ht
    have h3:t=40∨t=3∨t=9:=by
     rcases j with _ | _ | _ | _ | j
     ·left;simpa using ht.symm
     ·left;simpa using ht.symm
     ·right;left;simpa using ht.symm
     ·right;right;simpa using ht.symm
     ·simp at ht
    rcases h3 with rfl | rfl | rfl
    ·exact (show Tryz.prog.wantsStandIn 40=false by kernel_rfl)
    ·exact (show Tryz.prog.wantsStandIn 3=false by kernel_rfl)
    ·exact (show Tryz.prog.wantsStandIn 9=false by kernel_rfl)⟩)
  (by kernel_rfl)
#print axioms signed_card
end Go.Proofs.YtiganlkabilblaaGreatDoor
