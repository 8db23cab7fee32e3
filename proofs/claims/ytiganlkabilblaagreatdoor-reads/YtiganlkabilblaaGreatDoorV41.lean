import Derived.Test.YtiganlkabilblaaGreatDoorV40
import Derived.Deep.RegionHeldLaw
import Derived.Deep.CutRange
import Derived.Deep.AppendLies
set_option linter.all false
set_option maxHeartbeats 64000000
set_option maxRecDepth 100000
namespace Go.Proofs.YtiganlkabilblaaGreatDoor
open Go.RowKit Thk
attribute [local go_sem ↓] Go.wp_at_zero Go.wp_at_succ
theorem Tryz.infoTrees:(Tryz.prog.info? 163).map (fun i=>(i.zero,i.size,i.bytes))=some (some (.slice none 0 0),1,24):=by kernel_rfl
theorem Vw (w:World):w.drew.heap=w.heap:=rfl
abbrev plO (vp va vb:Value):Obj:=.cells #[vp,va,vb] 36 (0,0)
abbrev Jy (nb:Nat):Value:=.slice (some ⟨nb,0,none⟩) 4 4
def BkN (yb Ba m:Nat) (vp va vb v:Value) (E:List Value) (w w':World):Prop:=∃ va' nb,w'.heap[yb]? = some (plO vp va' vb)∧w'.ownsRow Ba 163 1 va' (m+1) (E++[Jy nb])∧Jf (fun x=>(v.ownBlock=some x∨w.heap.size≤x)∧va'.ownBlock≠some x) w' nb m∧GrW w w' (fun x=>x=yb∨v.ownBlock=some x∨va.ownBlock=some x)∧(va'.ownBlock=va.ownBlock∨∃ g,va'.ownBlock=some g∧w.heap.size≤g)
theorem ze3 {w X wr w5:World} {yb Ba m nb n k:Nat} {vp vb:Value} {ao aa:Option Addr} {cap ca g3 cap3:Nat} {E:List Value} {A:Nat→Option Addr} {C:Nat→Nat} {O:Obj} (h:Jt X (fun x=>(Value.slice ao n cap).ownBlock=some x∨X.heap.size≤x) w.heap.size m nb n A C k 0 wr) (hk:k≤4) (hk4:¬ k<4) (hXb:Below w.heap.size w X) (hXs:X.heap.size=w.heap.size+1) (hn:n≤5000)
  (hob:∀ x,(Value.slice ao n cap).ownBlock=some x→x<w.heap.size∧x≠yb∧(Value.slice aa m ca).ownBlock≠some x) (hva:w.ownsRow Ba 163 1 (.slice aa m ca) m E) (hy:w.heap[yb]? = some (plO vp (.slice aa m ca) vb)) (hyl:yb<w.heap.size) (hyk:wr.heap[yb]? = some (plO vp (.slice aa m ca) vb)) (hny:some yb≠(Value.slice aa m ca).ownBlock)
  (hown:w5.ownsRow Ba 163 1 (.slice (some ⟨g3,0,none⟩) (m+1) cap3) (m+1) (E++[Jy nb])) (hgrow:(wr.alloc O).grownBy w5 (Value.slice aa m ca).ownBlock) (hat:(Value.slice aa m ca).ownBlock=some g3∨g3=wr.heap.size+1) :
  BkN yb Ba m vp (.slice aa m ca) vb (.slice ao n cap) E w (w5.setCell ⟨yb,1,none⟩ (.slice (some ⟨g3,0,none⟩) (m+1) cap3)):=by
 have hz:=h.fr.size
 have hz5:=hgrow.size
 simp at hz5
 have hsz:(w5.setCell ⟨yb,1,none⟩ (.slice (some ⟨g3,0,none⟩) (m+1) cap3)).heap.size=w5.heap.size:=by simp[World.setCell]
 have hva2:∀ x,(Value.slice aa m ca).ownBlock=some x→x<w.heap.size:=fun x hx=>(hva.lt x hx).2
 have h5:w5.heap[yb]? = some (plO vp (.slice aa m ca) vb):=YC hgrow hyk hny
 have hgy:g3≠yb:=by
  rintro rfl
  obtain⟨cur,hc⟩:=Zr hown rfl
  rw[h5] at hc;simp at hc
 have hkeep:∀ x,x<wr.heap.size→x≠yb→(Value.slice aa m ca).ownBlock≠some x→(w5.setCell ⟨yb,1,none⟩ (.slice (some ⟨g3,0,none⟩) (m+1) cap3)).heap[x]? = wr.heap[x]? := fun x hx hne hr=>by
  rw[Below.heap_setCell _ _ _ _ hne,hgrow.block x (by simp;omega) (fun e=>hr e.symm),zm _ _ hx]
 have hnl:=zd h.nk
 have hng:=h.nge
 have hg3:∀ x,x<wr.heap.size→(Value.slice aa m ca).ownBlock≠some x→(Value.slice (some ⟨g3,0,none⟩) (m+1) cap3).ownBlock≠some x:=fun x hx hn e=>by
  have e':g3=x:=Option.some.inj e
  subst e'
  rcases hat with e2 | e2
  ·exact hn e2
  ·omega
 refine⟨.slice (some ⟨g3,0,none⟩) (m+1) cap3,nb,by rw[zo h5];rfl,Z6 hown (fun x hx=>Below.heap_setCell _ _ _ _ (by
  have e:g3=x:=Option.some.inj hx
  subst e;exact hgy)),⟨⟨.inr (by omega),hg3 nb hnl (fun e=>by have:=hva2 nb e;omega)⟩,n,A,C,hn,?_,?_⟩,⟨hgrow.os.trans (h.fr.os.trans hXb.os),hgrow.tape.trans (h.fr.tape.trans hXb.tape),hgrow.output.trans (h.fr.output.trans hXb.output),by rw[hsz];omega,?_⟩,?_⟩
 ·rw[hkeep nb hnl (by omega) (fun e=>by have:=hva2 nb e;omega)];exact h.nk
 ·intro k' i hk' hi
  obtain⟨b,hA,hc⟩:=h.full k' i hk' hi (by omega)
  obtain⟨ao',b',cap',e1,h2,h3,h4⟩:=h.rooms k' hk'
  cases e1
  obtain⟨a1,⟨a2,a5⟩,a3⟩:=h2 (by omega)
  obtain rfl:b=b':=by rw[hA] at a1;simpa using a1
  have hby:b≠yb:=by
   rcases a2 with e | e
   ·exact (hob b e).2.1
   ·omega
  have hbv:(Value.slice aa m ca).ownBlock≠some b:=by
   rcases a2 with e | e
   ·exact (hob b e).2.2
   ·intro e2;have:=hva2 b e2;omega
  refine⟨b,⟨?_,hg3 b a3 hbv⟩,by rw[hsz];omega,hA,fun j hj=>?_⟩
  ·rcases a2 with e | e
   ·exact .inl e
   ·exact .inr (by omega)
  ·rw[World.cell?_of_block (a:=⟨b,i * 4+j,none⟩) (hkeep b a3 hby hbv)];exact hc j hj
 ·intro x hx hr
  rw[hkeep x (by omega) (fun e=>hr (.inl e)) (fun e=>hr (.inr (.inr e))),h.fr.block x (by omega) (by
   rintro (e | e)
   ·exact hr (.inr (.inl e))
   ·omega)]
  exact hXb.block x hx
 ·rcases hat with e | e
  ·exact .inl e.symm
  ·exact .inr ⟨g3,rfl,by omega⟩
theorem ze6 (w:World) (yb m Ba Bl:Nat) (vp va vb v:Value) (E olds:List Value) (n:Nat) (hy:w.heap[yb]? = some (plO vp va vb)) (hva:w.ownsRow Ba 163 1 va m E) (hl:w.ownsRow Bl 60 4 v n olds) (hn:n≤5000) (hm:m≤5000000000000) (hBa:Ba≤w.heap.size) :
    Calls Tryz.prog 49 #[.pointer (some ⟨yb,1,none⟩),v] w fun e w'=>e = .returned (.tuple #[])∧BkN yb Ba m vp va vb v E w w':=by
  obtain⟨ao,b,cap,rfl,hL⟩:=zg4 hl
  obtain⟨aa,ca,rfl⟩:=zl hva
  have q1:w.cell? ⟨yb,1,none⟩=some (.slice aa m ca):=z8 hy 1
  have hyl:=za hy
  have HOB:Hid (∀ x,(Value.slice ao n cap).ownBlock=some x→x<w.heap.size∧x≠yb∧(Value.slice aa m ca).ownBlock≠some x):=z6 (fun x hx=>by
    have h1:=hl.lt x hx
    obtain⟨cur,hc⟩:=Zr hl hx
    refine⟨h1.2,?_,?_⟩
    · rintro rfl;rw[hy] at hc;simp at hc
    · intro e
      obtain⟨cur2,hc2⟩:=Zr hva e
      rw[hc] at hc2;simp at hc2)
  have HY:=z6 hy
  have HVA:=z6 hva
  have hBa1:=hBa
  have HL:=z6 hL
  clear hL hy hva hl
  go_enter Tryz.func49,Tryz.ntmps49
  go_wp2_with fail
  obtain⟨X,hX⟩:∃ X,X=w.alloc (zO m):=⟨_,rfl⟩
  have hXs:X.heap.size=w.heap.size+1:=by rw[hX];simp
  have hXb:Below w.heap.size w X:=by rw[hX];exact zc _ _
  have hXz:X.heap[w.heap.size]? = some (zO m):=by rw[hX];exact zk _ _
  have hnp:¬ ((Value.slice ao n cap).ownBlock=some w.heap.size∨X.heap.size≤w.heap.size):=by
    rintro (h | h)
    · have:=(HOB.out _ h).1;omega
    · omega
  have hS0:RSS X (fun x=>(Value.slice ao n cap).ownBlock=some x∨X.heap.size≤x) w.heap.size m ao b n cap olds X.drew:=by
    refine RSN.s ⟨?_,by show _<X.heap.size;omega,⟨rfl,rfl,rfl,Nat.le_refl _,fun _ _ _=>rfl⟩,hXz,fun ⟨e,hc⟩=>by have:=HL.out.came.lt hc;omega,fun x hx=>.inr hx⟩
    have hev:EvW w X.drew:=by rw[hX];exact EvW.alloc w _
    refine (HL.out.impP (fun x hx=>.inl hx)).ev hev (by show _≤X.heap.size;omega) (fun j u hu=>?_)
    have h2:=HL.out.came.olds j u hu
    rw[Nat.zero_add] at h2
    rw[hX]
    show (w.alloc _).cell? _=_
    rw[World.cell?_alloc_lt _ _ _ (World.block_lt_of_cell? w _ h2)];exact h2
  have HPB:Hid (0<cap→((Value.slice ao n cap).ownBlock=some b∨X.heap.size≤b)):=z6 (fun hc=>.inl (HL.out.pb hc))
  have HBL:=z6 HL.out.came.lt
  have HNP:=z6 hnp
  have HXB:=z6 hXb
  clear hXz hnp hXb
  go_wp2_with fail
  rw[← hX]
  have HX:=z6 hX
  clear hX
  go_cut [5] from 14 to 31 (fun v5 wx=>∃ (nb:Nat) (A:Nat→Option Addr) (C:Nat→Nat),v5 = .slice (some ⟨nb,0,none⟩) 4 4∧Jt X (fun x=>(Value.slice ao n cap).ownBlock=some x∨X.heap.size≤x) w.heap.size m nb n A C 0 0 wx)
  case first=>
    go_region_held_law (fun w'=>RSS X (fun x=>(Value.slice ao n cap).ownBlock=some x∨X.heap.size≤x) w.heap.size m ao b n cap olds w') (first | assumption | exact zfA (by assumption) _)
      ((refine ziX (by rfl) _ _ (by rfl) (by assumption) (by rfl) _ _ _ (by rfl) (by decide) (by
        (try rw[Vw])
        repeat' (first
          | (refine Ji _ _ _ ?_;simp[hXs];done)
          | (refine Ji _ _ _ ?_;simp;done)
          | (refine (zm _ _ ?_).trans ?_
             · first | omega | (simp[hXs];done) | (simp[hXs];omega) | (simp;omega))
          | (refine GrW.look (by assumption) ?_ ?_ ?_
             · first | omega | (rw[Vw];simp[hXs];done) | (rw[Vw];simp[hXs];omega) | (simp;done) | (simp[hXs];done) | (simp;omega) | (simp[hXs];omega)
             · intro h
               obtain⟨e,hc⟩:=h
               have:=HBL.out hc
               omega
             (try rw[Vw])))) hn ?_;intro ao' cap' w' hR hE hS hG;have hz:=hG.size;(try rw[Vw] at hz);(try simp[hXs] at hz);(first | replace hR1:=hR1.ev hE hG.size | replace hR1:=(hR1.ev (EvW.alloc _ _) (by simp)).ev hE hG.size | replace hR1:=((hR1.ev (EvW.alloc _ _) (by simp)).ev (EvW.alloc _ _) (by simp)).ev hE hG.size | skip);(first | replace hR2:=hR2.ev hE hG.size | replace hR2:=(hR2.ev (EvW.alloc _ _) (by simp)).ev hE hG.size | replace hR2:=((hR2.ev (EvW.alloc _ _) (by simp)).ev (EvW.alloc _ _) (by simp)).ev hE hG.size | skip);(first | replace hR3:=hR3.ev hE hG.size | replace hR3:=(hR3.ev (EvW.alloc _ _) (by simp)).ev hE hG.size | replace hR3:=((hR3.ev (EvW.alloc _ _) (by simp)).ev (EvW.alloc _ _) (by simp)).ev hE hG.size | skip);(first | (have hR1:J4 _ _ _ _ (n+1):=hR) | (have hR2:J4 _ _ _ _ (n+2):=hR) | (have hR3:J4 _ _ _ _ (n+3):=hR));clear hR hE))
    all_goals (try go_wp2_with fail)
    all_goals go_meet
    all_goals exact zeS hS HNP.out HPB.out hR1 hR2 hR3
  case rest=>
    obtain⟨nb,A,C,rfl,hF⟩:=hcut
    have HF:=z6 hF
    have HKEEP:Hid (∀ k i wr,Jt X (fun x=>(Value.slice ao n cap).ownBlock=some x∨X.heap.size≤x) w.heap.size m nb n A C k i wr→∀ x,x<w.heap.size→(Value.slice ao n cap).ownBlock≠some x→wr.heap[x]? = w.heap[x]?):=z6 (fun k i wr h x hx hne=>by
      rw[h.fr.block x (by omega) (by rintro (h | h);exact hne h;omega)]
      exact HXB.out.block x hx)
    clear hF hS0 HBL HX HL q1
    go_wp2_with fail
    go_loopg [6] 4 (fun mm v wr=>∃ k:Nat,mm=4 - k∧v = .int .i64 k∧k≤4∧Hid (Jt X (fun x=>(Value.slice ao n cap).ownBlock=some x∨X.heap.size≤x) w.heap.size m nb n A C k 0 wr))
    case atStart=>exact⟨0,by omega,rfl,by omega,HF⟩
    case round=>
      obtain⟨k,rfl,rfl,hk,HI⟩:=hrel
      have hnq:=z8 HI.out.nk
      have hnl:=za HI.out.nk
      by_cases hlt:k<4
      · have hlt':(k:Int)<4:=by omega
        have hnk:wr.cell? ⟨nb,k,none⟩=some (.slice (A k) (n+k) (C k)):=by
          rw[hnq]
          have hk4:k=0∨k=1∨k=2∨k=3:=by omega
          rcases hk4 with rfl | rfl | rfl | rfl<;>rfl
        clear HF hnq
        go_wp2_with fail
        go_loopg [7] (n+k) (fun mm v wr=>∃ i:Nat,mm=n+k - i∧v = .int .i64 i∧i≤n+k∧Hid (Jt X (fun x=>(Value.slice ao n cap).ownBlock=some x∨X.heap.size≤x) w.heap.size m nb n A C k i wr))
        case atStart=>exact⟨0,by omega,rfl,by omega,HI⟩
        case round=>
          obtain⟨i,rfl,rfl,hi,HJ⟩:=hrel
          have hnq2:=z8 HJ.out.nk
          have hnl2:=za HJ.out.nk
          have hnk2:wr.cell? ⟨nb,k,none⟩=some (.slice (A k) (n+k) (C k)):=by
            rw[hnq2]
            have hk4:k=0∨k=1∨k=2∨k=3:=by omega
            rcases hk4 with rfl | rfl | rfl | rfl<;>rfl
          clear hnq2
          by_cases hli:i<n+k
          · have hli':(i:Int)<(n+k:Nat):=by omega
            obtain⟨ao',b',cap',e1,h2,h3,h4⟩:=HJ.out.rooms k hlt
            cases e1
            obtain⟨a1,⟨a2,a5⟩,a3⟩:=h2 (by omega)
            have f0:=h4 (i * 4) (by omega)
            have f1:=h4 (i * 4+1) (by omega)
            have f2:=h4 (i * 4+2) (by omega)
            have f3:=h4 (i * 4+3) (by omega)
            have z0:wr.cell? ⟨w.heap.size,0,none⟩=some (.int .i64 (-7070)):=z8 HJ.out.zf 0
            have z1:wr.cell? ⟨w.heap.size,1,none⟩=some (.int .i64 m):=z8 HJ.out.zf 1
            have z2:wr.cell? ⟨w.heap.size,2,none⟩=some (.int .i64 0):=z8 HJ.out.zf 2
            have z3:wr.cell? ⟨w.heap.size,3,none⟩=some (.int .i64 0):=z8 HJ.out.zf 3
            have hzl:=za HJ.out.zf
            obtain⟨x0,hx0⟩:=Option.isSome_iff_exists.1 f0.1
            obtain⟨x1,hx1⟩:=Option.isSome_iff_exists.1 f1.1
            obtain⟨x2,hx2⟩:=Option.isSome_iff_exists.1 f2.1
            obtain⟨x3,hx3⟩:=Option.isSome_iff_exists.1 f3.1
            have g0:=f0.2
            have g1:=f1.2
            have g2:=f2.2
            have g3:=f3.2
            have HST:=z6 (HJ.out.drew.store hlt hli a1)
            have hne1:b'≠nb:=a5
            have hne2:b'≠w.heap.size:=fun e=>HNP.out (e ▸ a2)
            have hne3:¬ nb=b':=fun e=>hne1 e.symm
            have hne4:¬ w.heap.size=b':=fun e=>hne2 e.symm
            rw[a1] at hnk2
            clear f0 f1 f2 f3 h2 h4 hnk
            go_wp2_with fail
            go_region_held (fun w'=>w'.cell? ⟨nb,k,none⟩=some (.slice (some ⟨b',0,none⟩) (n+k) (C k))∧w'.cell? ⟨w.heap.size,0,none⟩=some (.int .i64 (-7070))∧w'.cell? ⟨w.heap.size,1,none⟩=some (.int .i64 m)∧w'.cell? ⟨w.heap.size,2,none⟩=some (.int .i64 0)∧w'.cell? ⟨w.heap.size,3,none⟩=some (.int .i64 0)) (go_keep) (fail)
            all_goals go_wp2_with fail
            all_goals
              go_roundg (n+k - (i+1))
              case measure=>omega
              case rel=>exact⟨i+1,rfl,by go_num,by omega,HST⟩
          · have hli':¬ (i:Int)<(n+k:Nat):=by omega
            have hli2:¬ (i:Int)<(n:Int)+k:=by omega
            have HN:Hid (Jt X (fun x=>(Value.slice ao n cap).ownBlock=some x∨X.heap.size≤x) w.heap.size m nb n A C (k+1) 0 wr):=z6 { HJ.out with full:=fun k' i' h1 h2 h3=>HJ.out.full k' i' h1 h2 (by omega) }
            go_wp2_with fail
            go_roundg (4 - (k+1))
            case measure=>omega
            case rel=>exact⟨k+1,rfl,by go_num,by omega,HN⟩
      · have hlt':¬ (k:Int)<4:=by omega
        have hyk:wr.heap[yb]? = some (plO vp (.slice aa m ca) vb):=by rw[HKEEP.out _ _ _ HI.out yb hyl (fun e=>(HOB.out _ e).2.1 rfl)];exact HY.out
        have hyq:wr.cell? ⟨yb,1,none⟩=some (.slice aa m ca):=z8 hyk 1
        have hyf:wr.frozen? ⟨yb,1,none⟩=false:=zi hyk 1
        have hyl2:=za hyk
        have HYK:=z6 hyk
        have HOWN:Hid (wr.ownsRow Ba 163 1 (.slice aa m ca) m E):=z6 (Z6 HVA.out (fun g hg=>HKEEP.out _ _ _ HI.out g (HVA.out.lt g hg).2 (fun e=>(HOB.out _ e).2.2 hg)))
        have HML:Hid (m+1≤maxLen):=by show _≤_;unfold maxLen;omega
        have HNY:Hid (some yb≠(Value.slice aa m ca).ownBlock):=z6 (fun e=>by
          obtain⟨cur,hc⟩:=Zr HVA.out e.symm
          rw[HY.out] at hc;simp at hc)
        obtain⟨i0,hi0,hz0,hz1,hz2⟩:=info_parts Tryz.infoTrees
        have hBa:Ba≤wr.heap.size:=by have:=HI.out.fr.size;omega
        clear HF hnq hyk
        go_wp2_with (first | (at_builtin;refine wpList_append_lies _ rfl _ _ 31 rfl Ba 163 i0 _ 1 24 Tryz.underlying31 hi0 hz0 hz1 hz2 rfl (by decide) _ _ _ rfl (HOWN.out.alloc _) ⟨wr.heap.size,0,none⟩ 1 1 [Jy nb] rfl rfl (World.news_of_block (zk wr _)) (by intro u hu;simp at hu;subst hu;rfl) (by decide) HML.out (by omega) (by simp;omega) (wr.heap.size+1) (by simp) ?_))
        intro g3 cap3 w5 hown hgrow hat hlt3
        have y1:w5.cell? ⟨yb,1,none⟩=some (.slice aa m ca):=Kd hgrow hyq HNY.out
        have y2:w5.frozen? ⟨yb,1,none⟩=false:=zi (YC hgrow HYK.out HNY.out) 1
        have y3:=za (YC hgrow HYK.out HNY.out)
        have HZ:=z6 (ze3 HI.out hk hlt HXB.out hXs hn HOB.out HVA.out HY.out hyl HYK.out HNY.out hown hgrow hat)
        clear hown hgrow hat hlt3
        go_wp2_with fail
        go_end0
        exact⟨rfl,HZ.out⟩
end Go.Proofs.YtiganlkabilblaaGreatDoor
