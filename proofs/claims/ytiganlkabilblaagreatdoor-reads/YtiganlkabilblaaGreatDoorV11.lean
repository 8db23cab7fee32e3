import Derived.Test.YtiganlkabilblaaGreatDoorV10
set_option linter.all false
set_option maxHeartbeats 64000000
set_option maxRecDepth 100000
namespace Go.Proofs.YtiganlkabilblaaGreatDoor
open Go.RowKit
structure Kv (s:ByteArray) (k:Nat) (X:List Thk.zR × Nat) (w:World) (j:Nat) (xs:List Thk.zR) (v:Value) (wr:World):Prop where
 le:k+1+j≤s.size
 len:xs.length≤j
 own:Items wr (w.heap.size+2) v xs
 tok:wr.heap[w.heap.size+1]? = some (JV 4 k 0 ⟨#[]⟩ v)
 res:wr.heap[w.heap.size]? = some (JV 0 0 0 ⟨#[]⟩ (.slice none 0 0))
 below:Below w.heap.size w wr
 size:w.heap.size+2≤wr.heap.size
 all:X=(xs++(Thk.QL (s.data.toList.drop (k+1+j))).1,j+(Thk.QL (s.data.toList.drop (k+1+j))).2)
theorem Kv.tok2 {s:ByteArray} {k:Nat} {X:List Thk.zR × Nat} {w:World} {j:Nat} {xs:List Thk.zR} {v:Value} {wr:World} (h:Kv s k X w j xs v wr) {w2:World} {O:Obj} (hg:(wr.alloc O).grownBy w2 v.ownBlock) :
  w2.heap[w.heap.size+1]? = some (JV 4 k 0 ⟨#[]⟩ v):=by
 have:=h.size
 rw[hg.block _ (by simp;omega) (fun e=>by have:=(h.own.lt _ e.symm).1;omega),zm _ _ (by omega)];exact h.tok
theorem Kv.next {s:ByteArray} {k:Nat} {X:List Thk.zR × Nat} {w:World} {j:Nat} {xs:List Thk.zR} {v:Value} {wr:World} (h:Kv s k X w j xs v wr) {w2:World} {O:Obj} {c:Thk.zR} {n:Nat} {g cap:Nat}
  (hc:Thk.ZT (s.data.toList.drop (k+1+j))=some (c,n)) (ho:w2.ownsRow (w.heap.size+2) 303 2 (.slice (some ⟨g,0,none⟩) (xs.length+1) cap) (xs.length+1) (xs.flatMap ZO++ZO c)) (hg:(wr.alloc O).grownBy w2 v.ownBlock) :
  Hid (Kv s k X w (j+n) (xs++[c]) (.slice (some ⟨g,0,none⟩) (xs.length+1) cap) (w2.setCell ⟨w.heap.size+1,4,none⟩ (.slice (some ⟨g,0,none⟩) (xs.length+1) cap))):=by
 have hsz:=h.size
 have hz2':=hg.size
 simp at hz2'
 have hle:=KZ hc
 rw[List.length_drop,show s.data.toList.length=s.size from rfl] at hle
 have hl1:=h.le
 have hl2:=h.len
 have hr2:w2.heap[w.heap.size]? = some (JV 0 0 0 ⟨#[]⟩ (.slice none 0 0)):=by
  rw[hg.block _ (by simp;omega) (fun e=>by have:=(h.own.lt _ e.symm).1;omega),zm _ _ (by omega)];exact h.res
 refine⟨by omega,by simp;omega,?_,?_,?_,?_,by simp;omega,?_⟩
 ·refine ZL ?_ (by omega)
  simpa using ho
 ·rw[Jo (h.tok2 hg)];rfl
 ·rw[Below.heap_setCell _ _ _ _ (by simp)];exact hr2
 ·exact ((h.below.alloc (by omega) _).grown hg (by simp;omega) (fun b hb=>by have:=(h.own.lt b hb).1;omega)).setCell (by simp) _
 ·rw[h.all,zcS hc,List.drop_drop,show k+1+j+n=k+1+(j+n) from by omega]
  simp
  omega
theorem zhw (s:ByteArray) (k:Nat) (w:World) (hs:s.size≤2000) (hk:k<s.size) :
  Calls Tryz.prog 139 #[.string s,.int .i64 k] w fun e w'=>∃ v,
   e = .returned (ZN { Thk.QB (s.data.toList.drop (k+1)) with place:=k } v)∧Below w.heap.size w w'∧Items w' w.heap.size v (zr (Thk.QB (s.data.toList.drop (k+1)))):=by
 obtain⟨X,hX⟩:∃ X,X=Thk.QL (s.data.toList.drop (k+1)):=⟨_,rfl⟩
 obtain⟨T,hT⟩:∃ T,T=Thk.QB (s.data.toList.drop (k+1)):=⟨_,rfl⟩
 obtain⟨C,hC⟩:∃ C,C=Thk.ZX (s.data.toList.drop (k+1)) X.2 93 X.1.length:=⟨_,rfl⟩
 rw[← hT]
 have HT:Hid (T=if C then ⟨.cls,0,X.2+2,[],X.1⟩ else Thk.zB):=by rw[hC,hX];exact hT
 have HX:Hid (X=Thk.QL (s.data.toList.drop (k+1))):=hX
 have HC:Hid (C=Thk.ZX (s.data.toList.drop (k+1)) X.2 93 X.1.length):=hC
 clear hX hT hC
 obtain⟨i0,hi,hz0,hz1,hz2⟩:=info_parts Tryz.infoItem
 go_enter Tryz.func139,Tryz.ntmps139
 go_wp2_with fail
 go_loopg [6,7,8,9] (s.size - (k+1)) (fun m i _ _ _ wr=>∃ (j:Nat) (xs:List Thk.zR) (v:Value),m=s.size - (k+1+j)∧i = .int .i64 ↑(k+1+j)∧Hid (Kv s k X w j xs v wr))
 case atStart=>
  refine⟨0,[],.slice none 0 0,rfl,by go_num,?_⟩
  refine⟨by omega,by simp,World.ownsRow_nil _ _ _ _,?_,?_,?_,by simp,?_⟩
  ·rw[show w.heap.size+1=(w.alloc (JV 0 0 0 ⟨#[]⟩ (.slice none 0 0))).heap.size from by simp];exact heap_alloc_new _ _
  ·rw[zm _ _ (by simp)];exact heap_alloc_new _ _
  ·exact ((Below.refl _ _).alloc (Nat.le_refl _) _).alloc (by simp) _
  ·rw[HX.out];simp
 case round=>
  obtain⟨j,xs,v,rfl,rfl,hR⟩:=hrel
  have hR1:=hR.out.le
  have hq:=z8 hR.out.tok
  have hf:=zi hR.out.tok
  have hqr:=z8 hR.out.res
  have hfr:=zi hR.out.res
  have hown:wr.ownsRow (w.heap.size+2) 303 2 v xs.length (xs.flatMap ZO):=hR.out.own
  have hxl:=hR.out.len
  have hsz:=hR.out.size
  obtain⟨va,vc,hv⟩:=zl hown
  subst hv
  have hchar:=fun (j:Nat) (hj:j≤s.size) (o:Option (UInt8 × Nat)) (h:Thk.Zh [93,45] (s.data.toList.drop j)=o)=>zak s ⟨#[93,45]⟩ ⟨#[110,116,92,93,45]⟩ j wr hj hs rfl (by decide) (by decide) h
  by_cases hgo:∃ h:k+1+j<s.size,s[k+1+j]≠93
  ·obtain⟨hlt,hne⟩:=hgo
   have tq:((s[k+1+j].toNat:Int) != 93)=true:=by rw[bne_iff_ne];intro e;apply hne;apply UInt8.toNat_inj.1;rw[show (93:UInt8).toNat=93 from rfl];omega
   cases hc:Thk.Zh [93,45] (s.data.toList.drop (k+1+j)) with
   | none=>
    have hcall:=hchar _ hR1 _ hc
    rw[KE] at hcall
    have hsp:Thk.ZT (s.data.toList.drop (k+1+j))=none:=by unfold Thk.ZT;rw[hc]
    clear hc hchar
    have hD:X=(xs,j):=by rw[hR.out.all,VU hsp];simp
    subst hD
    have hCf:C=false:=by
     rw[HC.out];unfold Thk.ZX
     simp only[]
     rw[Yl s (k+1) j hlt]
     simp[hne]
    subst hCf
    have e1:=HT.out
    simp at e1
    subst e1
    have HB:=hR.out.below
    clear hsp hne HT HC HX hR hown hq hf
    go_wp2_with fail
    refine hcall.mono ?_
    rintro e w' ⟨rfl,hw⟩
    replace hw:=hw.symm;subst hw
    go_wp2_with fail
    refine bodyPost_ret (v:=ZN { Thk.zB with place:=k } (.slice none 0 0)) (by simp[results,Tryz.results139,go_sem,Yf,hqr,show w.heap.size<wr.heap.size from by omega]) rfl ⟨.slice none 0 0,rfl,?_,World.ownsRow_nil _ _ _ _⟩
    exact ((((HB.setCell (Nat.le_refl _) _).setCell (Nat.le_refl _) _).setCell (Nat.le_refl _) _).setCell (Nat.le_refl _) _).setCell (Nat.le_refl _) _
   | some p=>
    obtain⟨lo,n⟩:=p
    have hcall:=hchar _ hR1 _ hc
    rw[KF] at hcall
    have hle:=Jg hc
    rw[List.length_drop,show s.data.toList.length=s.size from rfl] at hle
    obtain⟨hn1,hn2⟩:=hle
    have ht:((n:Int) == 0)=false:=beq_eq_false_iff_ne.2 (by omega)
    by_cases hd:∃ h:k+1+j+n<s.size,s[k+1+j+n]=45
    ·obtain⟨hlt2,h45⟩:=hd
     have t45:((s[k+1+j+n].toNat:Int) == 45)=true:=by rw[h45];rfl
     have hspe:Thk.ZT (s.data.toList.drop (k+1+j))=(match Thk.Zh [93,45] (s.data.toList.drop (k+1+j+n+1)) with | none=>none | some (hi,m)=>if lo≤hi then some ((lo,hi),n+1+m) else none):=by
      unfold Thk.ZT
      rw[hc]
      simp only[]
      rw[Yl s (k+1+j) n hlt2,if_pos (by rw[h45]),List.drop_drop]
      rfl
     clear h45 hc
     cases hc2:Thk.Zh [93,45] (s.data.toList.drop (k+1+j+n+1)) with
     | none=>
      have hcall2:=hchar _ (by omega) _ hc2
      rw[KE] at hcall2
      simp only[show ((k+1+j+n+1:Nat):Int)=(k:Int)+1+j+n+1 from by omega] at hcall2
      have hsp:Thk.ZT (s.data.toList.drop (k+1+j))=none:=by rw[hspe,hc2]
      clear hc2 hspe hchar
      have hD:X=(xs,j):=by rw[hR.out.all,VU hsp];simp
      subst hD
      have hCf:C=false:=by
       rw[HC.out];unfold Thk.ZX
       simp only[]
       rw[Yl s (k+1) j hlt]
       simp[hne]
      subst hCf
      have e1:=HT.out
      simp at e1
      subst e1
      have HB:=hR.out.below
      clear hsp hne HT HC HX hR hown hq hf
      go_wp2_with fail
      refine hcall.mono ?_
      rintro e w' ⟨rfl,hw⟩
      replace hw:=hw.symm;subst hw
      go_wp2_with fail
      refine hcall2.mono ?_
      rintro e w' ⟨rfl,hw⟩
      replace hw:=hw.symm;subst hw
      go_wp2_with fail
      refine bodyPost_ret (v:=ZN { Thk.zB with place:=k } (.slice none 0 0)) (by simp[results,Tryz.results139,go_sem,Yf,hqr,show w.heap.size<wr.heap.size from by omega]) rfl ⟨.slice none 0 0,rfl,?_,World.ownsRow_nil _ _ _ _⟩
      exact ((((HB.setCell (Nat.le_refl _) _).setCell (Nat.le_refl _) _).setCell (Nat.le_refl _) _).setCell (Nat.le_refl _) _).setCell (Nat.le_refl _) _
     | some p=>
      obtain⟨hi',m⟩:=p
      have hcall2:=hchar _ (by omega) _ hc2
      rw[KF] at hcall2
      simp only[show ((k+1+j+n+1:Nat):Int)=(k:Int)+1+j+n+1 from by omega] at hcall2
      have hle:=Jg hc2
      rw[List.length_drop,show s.data.toList.length=s.size from rfl] at hle
      obtain⟨hm1,hm2⟩:=hle
      have t3:((m:Int) == 0)=false:=beq_eq_false_iff_ne.2 (by omega)
      rw[hc2] at hspe
      simp only[] at hspe
      by_cases h4:lo≤hi'
      ·have t4:¬ (hi'.toNat:Int)<lo.toNat:=by rw[UInt8.le_iff_toNat_le] at h4;omega
       have HSP:Hid (Thk.ZT (s.data.toList.drop (k+1+j))=some ((lo,hi'),n+1+m)):=by rw[if_pos h4] at hspe;exact hspe
       clear h4 hspe hc2 hchar hne
       go_wp2_with fail
       refine hcall.mono ?_
       rintro e w' ⟨rfl,hw⟩
       replace hw:=hw.symm;subst hw
       go_wp2_with fail
       refine hcall2.mono ?_
       rintro e w' ⟨rfl,hw⟩
       replace hw:=hw.symm;subst hw
       clear hcall hcall2
       go_wp2_with (first | (at_builtin;refine wpList_append_lies _ rfl _ _ 147 rfl (w.heap.size+2) 303 i0 _ 2 2 Tryz.underlying147 hi hz0 hz1 hz2 rfl (by decide) _ _ _ rfl (hown.alloc _) ⟨wr.heap.size,0,none⟩ 1 1 (ZO (lo,hi')) rfl rfl ?c1 ?c2 (by decide) ?c3 ?c4 ?c5 _ rfl ?_))
       case c1=>first | exact KC _ _ _ _ | exact fun _ _ h=>h
       case c2=>intro u hu;simp[ZO] at hu;rcases hu with rfl | rfl<;>rfl
       case c3=>unfold maxLen;omega
       case c4=>omega
       case c5=>first | omega | (simp;omega)
       intro g cap w2 hown' hgrow hat hgl
       have hN:=hR.out.next HSP.out hown' hgrow
       have ht2:=hR.out.tok2 hgrow
       have hq2:=z8 ht2
       have hf2:=zi ht2
       clear hown' hgrow hown hR hq hf hqr hfr ht2
       go_wp2_with fail
       go_roundg (s.size - (k+1+(j+(n+1+m))))
       case measure=>omega
       case rel=>exact⟨j+(n+1+m),xs++[(lo,hi')],_,rfl,by go_num,hN⟩
      ·have t4:(hi'.toNat:Int)<lo.toNat:=by rw[UInt8.le_iff_toNat_le] at h4;omega
       have hsp:Thk.ZT (s.data.toList.drop (k+1+j))=none:=by rw[if_neg h4] at hspe;exact hspe
       clear h4 hspe hc2 hchar
       have hD:X=(xs,j):=by rw[hR.out.all,VU hsp];simp
       subst hD
       have hCf:C=false:=by
        rw[HC.out];unfold Thk.ZX
        simp only[]
        rw[Yl s (k+1) j hlt]
        simp[hne]
       subst hCf
       have e1:=HT.out
       simp at e1
       subst e1
       have HB:=hR.out.below
       clear hsp hne HT HC HX hR hown hq hf
       go_wp2_with fail
       refine hcall.mono ?_
       rintro e w' ⟨rfl,hw⟩
       replace hw:=hw.symm;subst hw
       go_wp2_with fail
       refine hcall2.mono ?_
       rintro e w' ⟨rfl,hw⟩
       replace hw:=hw.symm;subst hw
       go_wp2_with fail
       refine bodyPost_ret (v:=ZN { Thk.zB with place:=k } (.slice none 0 0)) (by simp[results,Tryz.results139,go_sem,Yf,hqr,show w.heap.size<wr.heap.size from by omega]) rfl ⟨.slice none 0 0,rfl,?_,World.ownsRow_nil _ _ _ _⟩
       exact ((((HB.setCell (Nat.le_refl _) _).setCell (Nat.le_refl _) _).setCell (Nat.le_refl _) _).setCell (Nat.le_refl _) _).setCell (Nat.le_refl _) _
    ·have HSP:Hid (Thk.ZT (s.data.toList.drop (k+1+j))=some ((lo,lo),n)):=by
      show _=_
      unfold Thk.ZT
      rw[hc]
      simp only[]
      rw[if_neg]
      by_cases h:k+1+j+n<s.size
      ·rw[Yl s (k+1+j) n h]
       intro e
       exact hd ⟨h,by simpa using e⟩
      ·rw[Vz s (k+1+j) n (by omega)];simp
     clear hc hchar hne
     by_cases hlt2:k+1+j+n<s.size
     ·have t45:((s[k+1+j+n].toNat:Int) == 45)=false:=by
       rw[beq_eq_false_iff_ne];intro e;apply hd;refine⟨hlt2,?_⟩;apply UInt8.toNat_inj.1;rw[show (45:UInt8).toNat=45 from rfl];omega
      clear hd
      go_wp2_with fail
      refine hcall.mono ?_
      rintro e w' ⟨rfl,hw⟩
      replace hw:=hw.symm;subst hw
      clear hcall
      go_wp2_with (first | (at_builtin;refine wpList_append_lies _ rfl _ _ 147 rfl (w.heap.size+2) 303 i0 _ 2 2 Tryz.underlying147 hi hz0 hz1 hz2 rfl (by decide) _ _ _ rfl (hown.alloc _) ⟨wr.heap.size,0,none⟩ 1 1 (ZO (lo,lo)) rfl rfl ?c1 ?c2 (by decide) ?c3 ?c4 ?c5 _ rfl ?_))
      case c1=>first | exact KC _ _ _ _ | exact fun _ _ h=>h
      case c2=>intro u hu;simp[ZO] at hu;subst hu;rfl
      case c3=>unfold maxLen;omega
      case c4=>omega
      case c5=>first | omega | (simp;omega)
      intro g cap w2 hown' hgrow hat hgl
      have hN:=hR.out.next HSP.out hown' hgrow
      have ht2:=hR.out.tok2 hgrow
      have hq2:=z8 ht2
      have hf2:=zi ht2
      clear hown' hgrow hown hR hq hf hqr hfr ht2
      go_wp2_with fail
      go_roundg (s.size - (k+1+(j+(n))))
      case measure=>omega
      case rel=>exact⟨j+(n),xs++[(lo,lo)],_,rfl,by go_num,hN⟩
     ·clear hd
      go_wp2_with fail
      refine hcall.mono ?_
      rintro e w' ⟨rfl,hw⟩
      replace hw:=hw.symm;subst hw
      clear hcall
      go_wp2_with (first | (at_builtin;refine wpList_append_lies _ rfl _ _ 147 rfl (w.heap.size+2) 303 i0 _ 2 2 Tryz.underlying147 hi hz0 hz1 hz2 rfl (by decide) _ _ _ rfl (hown.alloc _) ⟨wr.heap.size,0,none⟩ 1 1 (ZO (lo,lo)) rfl rfl ?c1 ?c2 (by decide) ?c3 ?c4 ?c5 _ rfl ?_))
      case c1=>first | exact KC _ _ _ _ | exact fun _ _ h=>h
      case c2=>intro u hu;simp[ZO] at hu;subst hu;rfl
      case c3=>unfold maxLen;omega
      case c4=>omega
      case c5=>first | omega | (simp;omega)
      intro g cap w2 hown' hgrow hat hgl
      have hN:=hR.out.next HSP.out hown' hgrow
      have ht2:=hR.out.tok2 hgrow
      have hq2:=z8 ht2
      have hf2:=zi ht2
      clear hown' hgrow hown hR hq hf hqr hfr ht2
      go_wp2_with fail
      go_roundg (s.size - (k+1+(j+(n))))
      case measure=>omega
      case rel=>exact⟨j+(n),xs++[(lo,lo)],_,rfl,by go_num,hN⟩
  ·have hsp:Thk.ZT (s.data.toList.drop (k+1+j))=none:=by
    unfold Thk.ZT
    by_cases hlt:k+1+j<s.size
    ·have h39:s[k+1+j]=93:=by
      by_cases h:s[k+1+j]=93
      ·exact h
      ·exact absurd ⟨hlt,h⟩ hgo
     rw[Q6 s _ hlt,h39];rfl
    ·rw[J6 s _ (by omega)];rfl
   have hD:X=(xs,j):=by rw[hR.out.all,VU hsp];simp
   clear hsp hchar
   subst hD
   have HB:=hR.out.below
   by_cases hlt:k+1+j<s.size
   ·have h39:s[k+1+j]=93:=by
     by_cases h:s[k+1+j]=93
     ·exact h
     ·exact absurd ⟨hlt,h⟩ hgo
    have tq:((s[k+1+j].toNat:Int) != 93)=false:=by rw[h39];rfl
    have hCe:C=(decide (1≤xs.length) && decide (xs.length≤20)):=by
     rw[HC.out];unfold Thk.ZX
     simp only[]
     rw[Yl s (k+1) j hlt,h39]
     simp
    clear hgo h39
    by_cases h1 : 1≤xs.length
    ·by_cases h20:xs.length≤20
     ·have hCt:C=true:=by rw[hCe];simp[h1,h20]
      subst hCt
      have e1:=HT.out
      simp only[if_true] at e1
      subst e1
      have HI:Hid (Items wr (w.heap.size+2) (.slice va xs.length vc) xs):=hR.out.own
      clear HT HC HX hR hown hCe
      go_wp2_with fail
      refine bodyPost_ret (v:=.agg #[.int .i64 4,.int .i64 k,.int .i64 ↑(k+(j+2)),.string ⟨#[]⟩,.slice va xs.length vc]) (by simp[results,Tryz.results139,go_sem,hqr,hq,show w.heap.size<wr.heap.size from by omega];omega) rfl ⟨.slice va xs.length vc,rfl,?_,?_⟩
      ·exact (((((HB.setCell (by simp) _).setCell (Nat.le_refl _) _).setCell (Nat.le_refl _) _).setCell (Nat.le_refl _) _).setCell (Nat.le_refl _) _).setCell (Nat.le_refl _) _
      ·have hI:=HI.out
       refine Zn (ZL (ZL (ZL (ZL (ZL (ZL hI ?_) ?_) ?_) ?_) ?_) ?_) (by omega:w.heap.size≤w.heap.size+2)<;>omega
     ·have hCf:C=false:=by rw[hCe];simp[h20]
      subst hCf
      have e1:=HT.out
      simp at e1
      subst e1
      clear HT HC HX hR hown hCe
      go_wp2_with fail
      refine bodyPost_ret (v:=ZN { Thk.zB with place:=k } (.slice none 0 0)) (by simp[results,Tryz.results139,go_sem,Yf,hqr,show w.heap.size<wr.heap.size from by omega]) rfl ⟨.slice none 0 0,rfl,?_,World.ownsRow_nil _ _ _ _⟩
      exact ((((HB.setCell (Nat.le_refl _) _).setCell (Nat.le_refl _) _).setCell (Nat.le_refl _) _).setCell (Nat.le_refl _) _).setCell (Nat.le_refl _) _
    ·have hCf:C=false:=by rw[hCe];simp[h1]
     subst hCf
     have e1:=HT.out
     simp at e1
     subst e1
     clear HT HC HX hR hown hCe
     go_wp2_with fail
     refine bodyPost_ret (v:=ZN { Thk.zB with place:=k } (.slice none 0 0)) (by simp[results,Tryz.results139,go_sem,Yf,hqr,show w.heap.size<wr.heap.size from by omega]) rfl ⟨.slice none 0 0,rfl,?_,World.ownsRow_nil _ _ _ _⟩
     exact ((((HB.setCell (Nat.le_refl _) _).setCell (Nat.le_refl _) _).setCell (Nat.le_refl _) _).setCell (Nat.le_refl _) _).setCell (Nat.le_refl _) _
   ·have hCf:C=false:=by
     rw[HC.out];unfold Thk.ZX
     simp only[]
     rw[Vz s (k+1) j (by omega)]
     rfl
    subst hCf
    have e1:=HT.out
    simp at e1
    subst e1
    clear HT HC HX hR hown hgo
    go_wp2_with fail
    refine bodyPost_ret (v:=ZN { Thk.zB with place:=k } (.slice none 0 0)) (by simp[results,Tryz.results139,go_sem,Yf,hqr,show w.heap.size<wr.heap.size from by omega]) rfl ⟨.slice none 0 0,rfl,?_,World.ownsRow_nil _ _ _ _⟩
    exact ((((HB.setCell (Nat.le_refl _) _).setCell (Nat.le_refl _) _).setCell (Nat.le_refl _) _).setCell (Nat.le_refl _) _).setCell (Nat.le_refl _) _
end Go.Proofs.YtiganlkabilblaaGreatDoor
