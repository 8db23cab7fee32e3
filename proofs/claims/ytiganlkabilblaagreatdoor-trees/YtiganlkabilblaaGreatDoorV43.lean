import Derived.Test.YtiganlkabilblaaGreatDoorV42
set_option linter.all false
set_option maxHeartbeats 64000000
set_option maxRecDepth 100000
namespace Go.Proofs.YtiganlkabilblaaGreatDoor
open Go.RowKit Thk
attribute [local go_sem ↓] Go.wp_at_zero Go.wp_at_succ
theorem PAll.rules20 {l:List UInt8} {g:List Rule} {E:List Bool} (h:PAll l (.ok (g,E))):g.length≤20:=by
 cases h with
 | ok h _=>
  obtain⟨_,S',_,hok⟩:=read_ok h
  have:=hok.le
  omega
theorem TreeIs.both {t:List UInt8} {s:ByteArray} {B B2:Nat} {w w2:World} {v c v2 c2:Value} (h:TreeIs t s B w v c) (h2:TreeIs t s B2 w2 v2 c2):∃ (L:List Nod) (er:Int),L.length≤5000∧c = .int .i64 er∧c2 = .int .i64 er∧NodL w B v L∧NodL w2 B2 v2 L:=by
 obtain⟨res,hP,hE⟩:=h
 obtain⟨res2,hP2,hE2⟩:=h2
 have:=hP.det hP2
 subst this
 cases res with
 | error x=>
  obtain⟨er,p⟩:=x
  obtain⟨rfl,rfl⟩:=hE
  obtain⟨rfl,rfl⟩:=hE2
  exact⟨[],er,by simp,rfl,rfl,World.ownsRow_nil _ _ _ _,World.ownsRow_nil _ _ _ _⟩
 | ok y=>
  obtain⟨g,E⟩:=y
  simp only[] at hE hE2
  by_cases hlong : 200<s.size
  ·rw[if_pos hlong] at hE hE2
   obtain⟨rfl,rfl⟩:=hE
   obtain⟨rfl,rfl⟩:=hE2
   exact⟨[],1,by simp,rfl,rfl,World.ownsRow_nil _ _ _ _,World.ownsRow_nil _ _ _ _⟩
  ·rw[if_neg hlong] at hE hE2
   obtain⟨o,ho,rfl,h1⟩:=hE
   obtain⟨o2,ho2,rfl,h2⟩:=hE2
   have:=(ho hP.ends.pos).det _ (ho2 hP.ends.pos)
   subst this
   cases o with
   | none=>
    subst h1
    subst h2
    exact⟨[],0,by simp,rfl,rfl,World.ownsRow_nil _ _ _ _,World.ownsRow_nil _ _ _ _⟩
   | some x=>
    obtain⟨a,cp,rfl,r1⟩:=h1
    obtain⟨a2,cp2,rfl,r2⟩:=h2
    have hsm:=ze8 hP.ends hP.rules20 (show s.data.toList.length≤200 by show s.size≤200;omega) ho
    exact⟨treeL x,0,by simp only[treeL,List.length_cons,zc5];omega,rfl,rfl,r1,r2⟩
theorem TreeIs.pread {t:List UInt8} {s:ByteArray} {B:Nat} {w:World} {v c:Value} (h:TreeIs t s B w v c):∃ r,PRead t r:=by
 obtain⟨res,hP,_⟩:=h
 exact hP.pread
theorem TreeIs.form {t:List UInt8} {s:ByteArray} {B:Nat} {w:World} {v c:Value} (h:TreeIs t s B w v c):∃ a n cp er,v = .slice a n cp∧c = .int .i64 er:=by
 obtain⟨L,er,_,h1,_,h2,_⟩:=h.both h
 obtain⟨a,cp,h3⟩:=za9 h2
 exact⟨a,_,cp,er,h3,h1⟩
def TrdPost (yb Ba m:Nat) (vp va vb:Value) (E:List Value) (w w':World):Prop:=∃ va' nb,w'.heap[yb]? = some (plO vp va' vb)∧w'.ownsRow Ba 163 1 va' (m+1) (E++[entV nb])∧EntN (fun x=>w.heap.size≤x) w' nb m∧GrW w w' (fun x=>x=yb∨va.ownBlock=some x)∧(va'.ownBlock=va.ownBlock∨∃ g,va'.ownBlock=some g∧w.heap.size≤g)
theorem EntN.imp {F G:Nat→Prop} {w:World} {nb m:Nat} (h:EntN F w nb m) (hi:∀ x,F x→G x):EntN G w nb m:=by
 obtain⟨n,A,C,hn,h1,h2⟩:=h.ex
 refine⟨hi _ h.fnb,n,A,C,hn,h1,fun k i hk hi'=>?_⟩
 obtain⟨b,hF,h3⟩:=h2 k i hk hi'
 exact⟨b,hi _ hF,h3⟩
theorem BkN.trd {yb Ba m n:Nat} {vp va vb v:Value} {E olds:List Value} {w w3 w4:World} (hb:Below w.heap.size w w3) (hl:w3.ownsRow w.heap.size 60 4 v n olds) (h:BkN yb Ba m vp va vb v E w3 w4):TrdPost yb Ba m vp va vb E w w4:=by
 obtain⟨va',nb,h1,h2,h3,h4,h5⟩:=h
 have hz:=hb.size
 refine⟨va',nb,h1,h2,h3.imp (fun x hx=>?_),⟨h4.os.trans hb.os,h4.tape.trans hb.tape,h4.output.trans hb.output,Nat.le_trans hz h4.size,fun x hx hr=>?_⟩,?_⟩
 ·rcases hx with e | e
  ·exact (hl.lt x e).1
  ·omega
 ·rw[h4.block x (by omega) (by
   rintro (e | e | e)
   ·exact hr (.inl e)
   ·have:=(hl.lt x e).1;omega
   ·exact hr (.inr e))]
  exact hb.block x hx
 ·rcases h5 with e | ⟨g,e,hg⟩
  ·exact .inl e
  ·exact .inr ⟨g,e,by omega⟩
theorem treed_any (t s:ByteArray) (w:World) (yb m Ba:Nat) (vp va vb:Value) (E:List Value) (hs:t.size≤maxLen) (hs2:s.size≤maxLen) (hg:ErrLaid w) (hy:w.heap[yb]? = some (plO vp va vb)) (hva:w.ownsRow Ba 163 1 va m E) (hm:m≤1000000) (hBa:Ba≤w.heap.size) :
  Calls Tryz.prog 21 #[.pointer (some ⟨yb,0,none⟩),.string t,.string s] w fun e w'=>e = .returned (.bool true)∧TrdPost yb Ba m vp va vb E w w':=by
 have hpt:=ptree_any t s w hs hs2 hg
 have hyl:=za3 hy
 have HY:=hideP hy
 have HVA:=hideP hva
 clear hg hy hva
 go_enter Tryz.func21,Tryz.ntmps21
 go_wp2_with fail
 refine hpt.mono ?_
 rintro _ w1 ⟨hb1,v,c,rfl,hI⟩
 obtain⟨a,n,cp,er,rfl,rfl⟩:=hI.form
 obtain⟨r,hr⟩:=hI.pread
 have HRT:=hideP (rtree_any t s w1 hs hs2 r hr)
 have HB1:=hideP hb1
 have HI:=hideP hI
 clear hpt hb1 hI hr
 go_wp2_with fail
 refine HRT.out.mono ?_
 rintro _ w2 ⟨hb2,v2,c2,rfl,hI2⟩
 obtain⟨L,er',hL,hc,hc2,hN,hN2⟩:=HI.out.both hI2
 obtain⟨a2,cp2,rfl⟩:=za9 hN2
 cases hc
 subst hc2
 obtain⟨_,_,hnf⟩:=za9 hN
 cases hnf
 have hN':NodL w2 w.heap.size (.slice a L.length cp) L:=zaq hN hb2
 have HSM:=hideP (sameNodes_any w2 _ _ _ _ L hN' hN2)
 have HN':=hideP hN'
 have HB2:Hid (Below w.heap.size w w2):=HB1.out.trans (hb2.mono HB1.out.size)
 clear HRT hb2 hI2 hN hN2 hN'
 go_wp2_with fail
 refine HSM.out.mono ?_
 rintro _ w3 ⟨rfl,hb3⟩
 have hB3:Below w.heap.size w w3:=HB2.out.trans (hb3.mono HB2.out.size)
 have hN3:NodL w3 w.heap.size (.slice a L.length cp) L:=zaq HN'.out hb3
 have hy3:w3.heap[yb]? = some (plO vp va vb):=by rw[hB3.block yb hyl];exact HY.out
 have hva3:w3.ownsRow Ba 163 1 va m E:=zaq HVA.out hB3
 have hy3l:=za3 hy3
 have HBN:Hid (Calls Tryz.prog 49 #[.pointer (some ⟨yb,1,none⟩),.slice a L.length cp] w3 fun e w4=>e = .returned (.tuple #[])∧Hid (TrdPost yb Ba m vp va vb E w w4)):=hideP ((bnodes_any w3 yb m Ba w.heap.size vp va vb _ E _ L.length hy3 hva3 hN3 hL hm (by have:=hB3.size;omega)).mono (fun e w4 h=>⟨h.1,hideP (h.2.trd hB3 hN3)⟩))
 clear HSM hb3 hB3 hN3 hy3 hva3
 go_wp2_with fail
 refine HBN.out.mono ?_
 rintro _ w4 ⟨rfl,HZ⟩
 clear HBN
 go_wp2_with fail
 go_ret
 exact⟨by simp,HZ.out⟩
theorem GrW.belowOf {w w':World} {row:Nat→Prop} {B:Nat} (h:GrW w w' row) (hB:B≤w.heap.size) (hr:∀ x,row x→B≤x):Below B w w':=⟨h.os,h.tape,h.output,h.size,fun k hk=>h.block k (by omega) (fun hx=>by have:=hr k hx;omega)⟩
theorem trees_any (t s:ByteArray) (w:World) (hs:t.size≤maxLen) (hs2:s.size≤maxLen) (hg:ErrLaid w) :
  Calls Tryz.prog 7 #[.string t,.string s] w fun e w'=>e = .returned (.bool true)∧Below w.heap.size w w':=by
 have hB0:=za1 w (plO (.slice none 0 0) (.slice none 0 0) (.slice none 0 0))
 have h0:=treed_any gram0 inp0 (w.alloc (plO (.slice none 0 0) (.slice none 0 0) (.slice none 0 0))) w.heap.size 0 w.heap.size _ _ _ [] (by decide) (by decide) (hg.below hB0) (za4 _ _) (World.ownsRow_nil _ _ _ _) (by decide) (by simp)
 have HG:=hideP hg
 have HB0:=hideP hB0
 clear hg hB0
 go_enter Tryz.func7,Tryz.ntmps7
 go_wp2_with fail
 refine h0.mono ?_
 rintro _ w1 ⟨rfl,va',nb,h1,h2,h3,h4,h5⟩
 have hb1:Below w.heap.size w w1:=HB0.out.trans (h4.belowOf (by simp) (by rintro x (rfl | e);exact Nat.le_refl _;simp[Value.ownBlock] at e))
 have HT:Hid (Calls Tryz.prog 21 #[.pointer (some ⟨w.heap.size,0,none⟩),.string t,.string s] w1 fun e w2=>e = .returned (.bool true)∧Hid (Below w.heap.size w w2)):=hideP ((treed_any t s w1 w.heap.size 1 w.heap.size _ _ _ _ hs hs2 (HG.out.below hb1) h1 h2 (by decide) hb1.size).mono (fun e w2 h=>⟨h.1,hideP (show Below w.heap.size w w2 from by
  obtain⟨he,va2,nb2,k1,k2,k3,k4,k5⟩:=h
  exact hb1.trans (k4.belowOf hb1.size (by
   rintro x (rfl | e)
   ·exact Nat.le_refl _
   ·exact (h2.lt x e).1)))⟩))
 clear h0 hb1 h1 h2 h3 h4 h5
 go_wp2_with fail
 refine HT.out.mono ?_
 rintro _ w2 ⟨rfl,HB2⟩
 clear HT
 go_wp2_with fail
 go_ret
 exact⟨rfl,HB2.out⟩
end Go.Proofs.YtiganlkabilblaaGreatDoor
