import Derived.Test.YtiganlkabilblaaGreatDoorV05
set_option linter.all false
set_option maxHeartbeats 64000000
set_option maxRecDepth 100000
namespace Go.Proofs.YtiganlkabilblaaGreatDoor
open Go.RowKit Go.WideMaps Go.Maps
def zaS (g:List Thk.Rule) (p:Thk.zat→Bool):Option Nat→Prop
 | none=>∀ i (h:i<g.length),p g[i].choice=false
 | some i=>∃ h:i<g.length,p g[i].choice=true∧∀ t (ht:t<g.length),t<i→p g[t].choice=false
theorem hasU_any (w:World) (mb eb:Nat) (names:List Thk.Bytes) (E:List Bool) (A:Nat→Prop) (c:Thk.zat) (u:Value) (hF:FactsAt w mb eb names E) (hc:RChoice w A c u) :
  Calls Tryz.prog 89 #[zag mb eb names.length,u] w fun e w'=>e = .returned (.bool (Thk.someC (unkT names) c))∧Below w.heap.size w w':=by
 have hmf:∀ (fn:Fn) (first cap:Array Value) (w:World),(Instr.makeFunc fn first cap).run Tryz.prog w = .ok (.func fn first cap) w:=fun _ _ _ _=>rfl
 have hB:Below w.heap.size w (w.alloc (zaI mb eb names.length)):=za1 _ _
 have hs:=some_allU (depC c) (w.alloc (zaI mb eb names.length)) w.heap.size mb eb names E A c u ⟨za4 _ _,hF.below hB⟩ (hc.kept (zau hB)) (Nat.le_refl _)
 obtain⟨us,hrow,_⟩:=hc
 obtain⟨ua,uc,rfl⟩:=za9 hrow.1
 generalize Thk.someC (unkT names) c=r at *
 simp only[zag]
 clear hF hrow
 go_enter Tryz.func89,Tryz.ntmps89
 go_wp2_with fail
 refine hs.mono ?_
 rintro e w1 ⟨rfl,hb⟩
 clear hs
 go_wp2_with fail
 go_ret
 exact⟨rfl,hB.trans (hb.mono (by simp))⟩
theorem firstU_any (w:World) (mb eb:Nat) (names:List Thk.Bytes) (E:List Bool) (A:Nat→Prop) (g:List Thk.Rule) (ga:Addr) (gc er:Nat) (hF:FactsAt w mb eb names E) (hG:RGram w A g (.slice (some ga) g.length gc)) (hgl:g.length≤20) :
  Calls Tryz.prog 88 #[.slice (some ga) g.length gc,.int .i64 er,.func (.func 89) #[zag mb eb names.length] #[]] w fun e w'=>
   Below w.heap.size w w'∧∃ o,zaS g (Thk.someC (unkT names)) o∧e = .returned (zbD er o):=by
 have HF:Hid (FactsAt w mb eb names E):=hF
 have HG:Hid (RGram w A g (.slice (some ga) g.length gc)):=hG
 clear hF hG
 simp only[zag]
 go_enter Tryz.func88,Tryz.ntmps88
 go_wp2_with fail
 go_loopg [11] g.length (fun m i wr=>∃ (j:Nat),m=g.length - j∧j≤g.length∧i = .int .i64 j∧Below w.heap.size w wr∧Hid (∀ t (ht:t<g.length),t<j→Thk.someC (unkT names) g[t].choice=false))
 case atStart=>exact⟨0,rfl,Nat.zero_le _,rfl,Below.refl _ _,fun t _ ht=>by omega⟩
 case round=>
  obtain⟨j,rfl,hj,rfl,hb,hno⟩:=hrel
  have HB:Hid (Below w.heap.size w wr):=hb
  have hsz:=hb.size
  clear hb
  by_cases hlt:j<g.length
  ·have hGr:RGram wr A g (.slice (some ga) g.length gc):=HG.out.kept (zau HB.out)
   obtain⟨gb,a,c,rfl,hgb,hAgb,c0,c1,hCh,hnm⟩:=hGr.at j hlt
   have hlt':(j:Int)<g.length:=by omega
   have hh:=fun O=>hasU_any (wr.alloc O) mb eb names E A g[j].choice _ (HF.out.below (HB.out.alloc hsz O)) (hCh.kept (zau (za1 wr O)))
   simp only[zag] at hh
   clear hGr hCh hnm
   cases hr:Thk.someC (unkT names) g[j].choice with
   | true=>
    simp only[hr] at hh
    have HFI:Hid (zaS g (Thk.someC (unkT names)) (some j)):=⟨hlt,hr,fun t ht htj=>hno.out t ht htj⟩
    clear hr hno
    go_wp2_with fail
    refine (hh _).mono ?_
    rintro e w1 ⟨rfl,hb1⟩
    have hs1:=hb1.size
    simp at hs1
    have hb3:Below w.heap.size w w1:=(HB.out.alloc hsz _).trans (hb1.mono (by simp;omega))
    clear hh hb1
    go_wp2_with fail
    go_ret
    exact⟨hb3,some j,HFI.out,rfl⟩
   | false=>
    simp only[hr] at hh
    have HN:Hid (∀ t (ht:t<g.length),t<j+1→Thk.someC (unkT names) g[t].choice=false):=by
     intro t ht htj
     by_cases e:t=j
     ·subst e;exact hr
     ·exact hno.out t ht (by omega)
    clear hr hno
    go_wp2_with fail
    refine (hh _).mono ?_
    rintro e w1 ⟨rfl,hb1⟩
    have hs1:=hb1.size
    simp at hs1
    have hb3:Below w.heap.size w w1:=(HB.out.alloc hsz _).trans (hb1.mono (by simp;omega))
    clear hh hb1
    go_wp2_with fail
    go_roundg (g.length - (j+1))
    case measure=>omega
    case rel=>exact⟨j+1,rfl,by omega,by go_num,hb3,HN⟩
  ·have HFI:Hid (zaS g (Thk.someC (unkT names)) none):=fun t ht=>hno.out t ht (by omega)
   clear hno
   go_wp2_with fail
   go_ret
   exact⟨HB.out,none,HFI.out,rfl⟩
theorem hasL_any (w:World) (mb eb:Nat) (names:List Thk.Bytes) (E:List Bool) (A:Nat→Prop) (c:Thk.zat) (u:Value) (hF:FactsAt w mb eb names E) (hc:RChoice w A c u) :
  Calls Tryz.prog 91 #[zag mb eb names.length,u] w fun e w'=>e = .returned (.bool (Thk.someC (loopT (Eb names E)) c))∧Below w.heap.size w w':=by
 have hmf:∀ (fn:Fn) (first cap:Array Value) (w:World),(Instr.makeFunc fn first cap).run Tryz.prog w = .ok (.func fn first cap) w:=fun _ _ _ _=>rfl
 have hB:Below w.heap.size w (w.alloc (zaI mb eb names.length)):=za1 _ _
 have hs:=some_allL (depC c) (w.alloc (zaI mb eb names.length)) w.heap.size mb eb names E A c u ⟨za4 _ _,hF.below hB⟩ (hc.kept (zau hB)) (Nat.le_refl _)
 obtain⟨us,hrow,_⟩:=hc
 obtain⟨ua,uc,rfl⟩:=za9 hrow.1
 generalize Thk.someC (loopT (Eb names E)) c=r at *
 simp only[zag]
 clear hF hrow
 go_enter Tryz.func91,Tryz.ntmps91
 go_wp2_with fail
 refine hs.mono ?_
 rintro e w1 ⟨rfl,hb⟩
 clear hs
 go_wp2_with fail
 go_ret
 exact⟨rfl,hB.trans (hb.mono (by simp))⟩
theorem firstL_any (w:World) (mb eb:Nat) (names:List Thk.Bytes) (E:List Bool) (A:Nat→Prop) (g:List Thk.Rule) (ga:Addr) (gc er:Nat) (hF:FactsAt w mb eb names E) (hG:RGram w A g (.slice (some ga) g.length gc)) (hgl:g.length≤20) :
  Calls Tryz.prog 88 #[.slice (some ga) g.length gc,.int .i64 er,.func (.func 91) #[zag mb eb names.length] #[]] w fun e w'=>
   Below w.heap.size w w'∧∃ o,zaS g (Thk.someC (loopT (Eb names E))) o∧e = .returned (zbD er o):=by
 have HF:Hid (FactsAt w mb eb names E):=hF
 have HG:Hid (RGram w A g (.slice (some ga) g.length gc)):=hG
 clear hF hG
 simp only[zag]
 go_enter Tryz.func88,Tryz.ntmps88
 go_wp2_with fail
 go_loopg [11] g.length (fun m i wr=>∃ (j:Nat),m=g.length - j∧j≤g.length∧i = .int .i64 j∧Below w.heap.size w wr∧Hid (∀ t (ht:t<g.length),t<j→Thk.someC (loopT (Eb names E)) g[t].choice=false))
 case atStart=>exact⟨0,rfl,Nat.zero_le _,rfl,Below.refl _ _,fun t _ ht=>by omega⟩
 case round=>
  obtain⟨j,rfl,hj,rfl,hb,hno⟩:=hrel
  have HB:Hid (Below w.heap.size w wr):=hb
  have hsz:=hb.size
  clear hb
  by_cases hlt:j<g.length
  ·have hGr:RGram wr A g (.slice (some ga) g.length gc):=HG.out.kept (zau HB.out)
   obtain⟨gb,a,c,rfl,hgb,hAgb,c0,c1,hCh,hnm⟩:=hGr.at j hlt
   have hlt':(j:Int)<g.length:=by omega
   have hh:=fun O=>hasL_any (wr.alloc O) mb eb names E A g[j].choice _ (HF.out.below (HB.out.alloc hsz O)) (hCh.kept (zau (za1 wr O)))
   simp only[zag] at hh
   clear hGr hCh hnm
   cases hr:Thk.someC (loopT (Eb names E)) g[j].choice with
   | true=>
    simp only[hr] at hh
    have HFI:Hid (zaS g (Thk.someC (loopT (Eb names E))) (some j)):=⟨hlt,hr,fun t ht htj=>hno.out t ht htj⟩
    clear hr hno
    go_wp2_with fail
    refine (hh _).mono ?_
    rintro e w1 ⟨rfl,hb1⟩
    have hs1:=hb1.size
    simp at hs1
    have hb3:Below w.heap.size w w1:=(HB.out.alloc hsz _).trans (hb1.mono (by simp;omega))
    clear hh hb1
    go_wp2_with fail
    go_ret
    exact⟨hb3,some j,HFI.out,rfl⟩
   | false=>
    simp only[hr] at hh
    have HN:Hid (∀ t (ht:t<g.length),t<j+1→Thk.someC (loopT (Eb names E)) g[t].choice=false):=by
     intro t ht htj
     by_cases e:t=j
     ·subst e;exact hr
     ·exact hno.out t ht (by omega)
    clear hr hno
    go_wp2_with fail
    refine (hh _).mono ?_
    rintro e w1 ⟨rfl,hb1⟩
    have hs1:=hb1.size
    simp at hs1
    have hb3:Below w.heap.size w w1:=(HB.out.alloc hsz _).trans (hb1.mono (by simp;omega))
    clear hh hb1
    go_wp2_with fail
    go_roundg (g.length - (j+1))
    case measure=>omega
    case rel=>exact⟨j+1,rfl,by omega,by go_num,hb3,HN⟩
  ·have HFI:Hid (zaS g (Thk.someC (loopT (Eb names E))) none):=fun t ht=>hno.out t ht (by omega)
   clear hno
   go_wp2_with fail
   go_ret
   exact⟨HB.out,none,HFI.out,rfl⟩
def markL (names:List Thk.Bytes) (B:List Bool) (l:List Thk.Bytes):List Bool:=l.foldl (fun B b=>B.set (idx0 names b) true) B
theorem zdp (names:List Thk.Bytes) (B:List Bool) (l:List Thk.Bytes):(markL names B l).length=B.length:=by
 induction l generalizing B with
 | nil=>rfl
 | cons b l ih=>show (markL names (B.set _ true) l).length=_;rw[ih];simp
theorem zeh (names:List Thk.Bytes) (B:List Bool) (l l':List Thk.Bytes):markL names B (l++l')=markL names (markL names B l) l':=by
 simp[markL,List.foldl_append]
theorem FactsAt.kpo {w w':World} {mb eb fb:Nat} {names:List Thk.Bytes} {E B:List Bool} (h:FactsAt w mb eb names E) (hk:Kp fb w.heap.size w w') (hfb:w.heap[fb]? = some (zaf B)) (hne:eb≠fb):FactsAt w' mb eb names E:=by
 refine⟨h.map.same (hk.block mb h.map.lt ?_),by rw[hk.block _ (za7 h.emp) hne];exact h.emp,h.len,h.pos,h.le⟩
 intro e
 subst e
 obtain⟨D,⟨es,clock,h1,_⟩,_⟩:=h.map
 rw[h1] at hfb
 simp[zaf] at hfb
def rowV (fb n:Nat):Value:=.slice (some ⟨fb,0,none⟩) n n
def MarkC (k:Nat):Prop:=∀ (w:World) (mb eb fb:Nat) (names:List Thk.Bytes) (E B:List Bool) (A:Nat→Prop) (c:Thk.zat) (u:Value),FactsAt w mb eb names E→w.heap[fb]? = some (zaf B)→B.length=names.length→eb≠fb →
 RChoice w A c u→(∀ g,A g→g≠fb)→depC c≤k →
 Calls Tryz.prog 131 #[zag mb eb names.length,u,rowV fb names.length] w fun e w'=>e = .returned (.tuple #[])∧Kp fb w.heap.size w w'∧w'.heap[fb]? = some (zaf (markL names B (Thk.zaJ (Eb names E) c)))
theorem zfa (k:Nat) (hC:∀ k',k'<k→MarkC k') (w:World) (mb eb fb:Nat) (names:List Thk.Bytes) (E B:List Bool) (A:Nat→Prop) (p:Thk.Piece) (v:Value) (hF:FactsAt w mb eb names E) (hfb:w.heap[fb]? = some (zaf B)) (hBl:B.length=names.length) (hne:eb≠fb)
  (hp:RPiece w A p v) (hA:∀ g,A g→g≠fb) (hk:depP p≤k) :
  Calls Tryz.prog 165 #[zag mb eb names.length,v,rowV fb names.length] w fun e w'=>e = .returned (.tuple #[])∧Kp fb w.heap.size w w'∧w'.heap[fb]? = some (zaf (markL names B (Thk.zaG (Eb names E) p))):=by
 have hle:=hF.le
 have hpos:=hF.pos
 have hfl:=za7 hfb
 have hcl:=za0 hfb
 have hfz:=za2 hfb
 have HFB:Hid (w.heap[fb]? = some (zaf B)):=hfb
 simp only[zag,rowV]
 have still:∀ O,w.heap[fb]? = some (zaf B)→(w.alloc O).heap[fb]? = some (zaf B):=fun O h=>by rw[za5 _ _ hfl];exact h
 cases p with
 | name b=>
  simp only[RPiece] at hp
  obtain⟨rfl,hbl⟩:=hp
  have hix:=zcc b hpos
  have hB:∀ O1 O2,Below w.heap.size w ((w.alloc O1).alloc O2):=fun O1 O2=>(za1 _ _).alloc (by simp) _
  have hlk:=fun O1 O2=>(hF.map.below (hB O1 O2)).look b hbl
  have e1:markL names B (Thk.zaG (Eb names E) (.name b))=B.set (idx0 names b) true:=rfl
  rw[e1]
  have hcx:w.cell? ⟨fb,idx0 names b,none⟩=some (.bool (B.getD (idx0 names b) false)):=by
   have hh:idx0 names b<B.length:=by omega
   rw[hcl];simp[hh]
  generalize idx0 names b=ix at *
  clear hF hC hk hfb e1 hB still hBl hcl
  have a1:=zcV
  go_enter Tryz.func165,Tryz.ntmps165
  go_wp2_with fail
  go_end0
  refine⟨rfl,(((Kp.refl _ _ _).setRb _ _).alloc (by simp) _).alloc (by simp) _,?_⟩
  rw[za5 _ _ (by simp;omega),za5 _ _ (by simp;omega),za6 HFB.out,zdV]
 | lit b=>
  simp only[RPiece] at hp
  subst hp
  have a1:=zdo
  have a2:=zd4
  clear hF hC hk hfb
  go_enter Tryz.func165,Tryz.ntmps165
  go_wp2_with fail
  go_end0
  exact⟨rfl,Kp.of (za1 _ _),still _ HFB.out⟩
 | cls l=>
  simp only[RPiece] at hp
  obtain⟨u,rfl,_⟩:=hp
  have a1:=zds
  have a2:=zcY
  clear hF hC hk hfb
  go_enter Tryz.func165,Tryz.ntmps165
  go_wp2_with fail
  go_end0
  exact⟨rfl,Kp.of (za1 _ _),still _ HFB.out⟩
 | any=>
  simp only[RPiece] at hp
  subst hp
  have a1:=zdn
  have a2:=zck
  clear hF hC hk hfb
  go_enter Tryz.func165,Tryz.ntmps165
  go_wp2_with fail
  go_end0
  exact⟨rfl,Kp.of (za1 _ _),still _ HFB.out⟩
 | group c=>
  simp only[RPiece] at hp
  obtain⟨u,us,rfl,hrow,hseqs⟩:=hp
  obtain⟨ua,uc,rfl⟩:=za9 hrow.1
  have hdep:depC c<k:=by simp only[depP] at hk;omega
  have e1:markL names B (Thk.zaG (Eb names E) (.group c))=markL names B (Thk.zaJ (Eb names E) c):=rfl
  rw[e1]
  have hB:∀ O1 O2,Below w.heap.size w ((w.alloc O1).alloc O2):=fun O1 O2=>(za1 _ _).alloc (by simp) _
  have hch:=fun O1 O2=>hC _ hdep ((w.alloc O1).alloc O2) mb eb fb names E B A c (.slice ua c.length uc) (hF.below (hB O1 O2)) (by rw[(hB O1 O2).block _ hfl];exact hfb) hBl hne (RChoice.kept (zau (hB O1 O2)) ⟨us,hrow,hseqs⟩) hA (Nat.le_refl _)
  simp only[zag,rowV] at hch
  have a1:=zcC
  have a2:=zbH
  clear hF hC hk hdep hrow hseqs e1 hfb hB hcl hfz still hBl
  go_enter Tryz.func165,Tryz.ntmps165
  go_wp2_with fail
  refine (hch _ _).mono ?_
  rintro e w1 ⟨rfl,hk1,hf1⟩
  have HK1:=(show Hid _ from hk1)
  have HF1:=(show Hid _ from hf1)
  clear hch hk1 hf1
  go_wp2_with fail
  go_end0
  exact⟨rfl,(Kp.of ((za1 _ _).alloc (by simp) _)).trans (HK1.out.mono (by simp;omega)),HF1.out⟩
theorem firstS_drop (E:Thk.Bytes→Bool) (s:List Thk.Term) (j:Nat) (hj:j<s.length):Thk.zaP E (s.drop j)=Thk.zbA E s[j]++(if Thk.zaB E s[j] then Thk.zaP E (s.drop (j+1)) else []):=by
 rw[List.drop_eq_getElem_cons hj];simp only[Thk.zaP]
theorem firstC_drop (E:Thk.Bytes→Bool) (c:List (List Thk.Term)) (j:Nat) (hj:j<c.length):Thk.zaJ E (c.drop j)=Thk.zaP E c[j]++Thk.zaJ E (c.drop (j+1)):=by
 rw[List.drop_eq_getElem_cons hj];simp only[Thk.zaJ]
structure MkRel (W:World) (fb:Nat) (B:List Bool) (wr:World):Prop where
 kp:Kp fb W.heap.size W wr
 row:wr.heap[fb]? = some (zaf B)
theorem mark_step (k:Nat) (hC:∀ k',k'<k→MarkC k'):MarkC k:=by
 intro w mb eb fb names E B A c u hF hfb hBl hne hp hA hk
 obtain⟨us,⟨hrow,hAr⟩,hseqs⟩:=hp
 obtain⟨ua,uc,rfl⟩:=za9 hrow
 have hcap:=zd6 hrow
 have hfl:=za7 hfb
 have HVL:Hid (c.length=us.length):=RSeqs.length hseqs
 obtain⟨W,hW⟩:∃ W,W=w.alloc (zaI mb eb names.length):=⟨_,rfl⟩
 have hB0:Below w.heap.size w W:=by rw[hW];exact za1 _ _
 have hWsz:W.heap.size=w.heap.size+1:=by rw[hW];simp
 have hbox:W.heap[w.heap.size]? = some (zaI mb eb names.length):=by rw[hW];exact za4 _ _
 have HF:Hid (FactsAt W mb eb names E):=hF.below hB0
 have HFB:Hid (W.heap[fb]? = some (zaf B)):=by show _=_;rw[hB0.block _ hfl];exact hfb
 have HROW:Hid (W.ownsRow 0 215 1 (.slice ua c.length uc) c.length us):=zaq hrow hB0
 have HAR:Hid (∀ g,(Value.slice ua c.length uc).ownBlock=some g→A g):=hAr
 have HSQ:Hid (RSeqs W A c us):=RSeqs.kept (zau hB0) c us hseqs
 have HB0:Hid (Below w.heap.size w W):=hB0
 have HBL:Hid (B.length=names.length):=hBl
 have HA:Hid (∀ g,A g→g≠fb):=hA
 have hSm:Hid (∀ wr,Kp fb W.heap.size W wr→Sm A W wr):=fun wr hk=>sm_kpB HFB.out hk hA
 simp only[zag,rowV]
 clear hF hfb hrow hseqs hB0 hBl hA hAr
 go_enter Tryz.func131,Tryz.ntmps131
 go_wp2_with fail
 rw[← hW]
 go_loopg [12] c.length (fun m i wr=>∃ (j:Nat) (B1:List Bool),m=c.length - j∧j≤c.length∧i = .int .i64 j∧MkRel W fb B1 wr∧B1.length=names.length∧Hid (markL names B (Thk.zaJ (Eb names E) c)=markL names B1 (Thk.zaJ (Eb names E) (c.drop j))))
 case atStart=>exact⟨0,B,rfl,Nat.zero_le _,rfl,⟨Kp.refl _ _ _,HFB.out⟩,HBL.out,rfl⟩
 case round=>
  obtain⟨j,B1,rfl,hj,rfl,hR,hB1,hH⟩:=hrel
  have HR:Hid (MkRel W fb B1 wr):=hR
  have HB1:Hid (B1.length=names.length):=hB1
  have hszr:=hR.kp.size
  clear hR hB1
  by_cases hlt:j<c.length
  ·have hjv:j<us.length:=by have:=HVL.out;omega
   obtain⟨g,rfl,hcs,hgl⟩:=zbr HROW.out (by omega)
   have hgf:g≠fb:=HA.out g (HAR.out g rfl)
   have c0 : wr.cell? ⟨g, j, none⟩ = some (us[j]'hjv) := by rw [zbn HR.out.kp hgl hgf, hcs _ (by omega)]; exact List.getElem?_eq_getElem hjv
   have hsq:=RSeqs.get HSQ.out j hlt hjv
   have hdj:=Nat.le_trans (zcn c j hlt) hk
   have hed:=firstC_drop (Eb names E) c j hlt
   obtain⟨vs,⟨hrow,hAr⟩,hts⟩:=hsq
   obtain⟨sa,sc,hvx⟩:=za9 hrow
   rw[hvx] at c0 hrow hAr
   have hcaps:=zd6 hrow
   have hlt':(j:Int)<c.length:=by omega
   obtain⟨s,hs⟩:∃ s,s=c[j]:=⟨_,rfl⟩
   rw[← hs] at hrow hts hdj c0 hcaps hAr hed
   have HED:Hid (Thk.zaJ (Eb names E) (c.drop j)=Thk.zaP (Eb names E) s++Thk.zaJ (Eb names E) (c.drop (j+1))):=hed
   have HVLs:Hid (s.length=vs.length):=RTerms.length hts
   have HROWs:Hid (W.ownsRow 0 249 3 (.slice sa s.length sc) s.length (termC s vs)):=hrow
   have HARs:Hid (∀ g,(Value.slice sa s.length sc).ownBlock=some g→A g):=hAr
   have HTS:Hid (RTerms W A s vs):=hts
   clear hed hvx hcs hs hrow hts hAr hgl hgf
   have NEXT:Hid (∀ wx,MkRel W fb (markL names B1 (Thk.zaP (Eb names E) s)) wx→∃ (j':Nat) (B2:List Bool),c.length - (j+1)=c.length - j'∧j'≤c.length∧Value.int IntKind.i64 ((j:Int)+1) = .int .i64 j'∧MkRel W fb B2 wx∧B2.length=names.length∧Hid (markL names B (Thk.zaJ (Eb names E) c)=markL names B2 (Thk.zaJ (Eb names E) (c.drop j')))):=by
    intro wx hx
    refine⟨j+1,_,rfl,by omega,by go_num,hx,by rw[zdp];exact HB1.out,?_⟩
    show _=_
    rw[hH.out,HED.out,zeh]
   go_wp2_with fail
   go_loopg [18] s.length (fun m i wx=>∃ (i1:Nat) (B2:List Bool),m=s.length - i1∧i1≤s.length∧i = .int .i64 i1∧MkRel W fb B2 wx∧B2.length=names.length∧Hid (markL names B1 (Thk.zaP (Eb names E) s)=markL names B2 (Thk.zaP (Eb names E) (s.drop i1))))
   case atStart=>exact⟨0,B1,rfl,Nat.zero_le _,rfl,HR.out,HB1.out,rfl⟩
   case round=>
    obtain⟨i,B2,rfl,hi,rfl,hR2,hB2,hS⟩:=hrel
    have HR2:Hid (MkRel W fb B2 wr):=hR2
    have HB2:Hid (B2.length=names.length):=hB2
    have hsz2:=hR2.kp.size
    have hbx0:wr.heap[w.heap.size]? = some (zaI mb eb names.length):=by rw[hR2.kp.block _ (by omega) (by omega)];exact hbox
    have hbx:=za0 hbx0
    have HBX:Hid (wr.heap[w.heap.size]? = some (zaI mb eb names.length)):=hbx0
    clear hR2 hB2 hbx0
    by_cases hlti:i<s.length
    ·have hiv:i<vs.length:=by have:=HVLs.out;omega
     obtain⟨g2,rfl,hcs2,hgl2⟩:=zbr HROWs.out (by omega)
     have hgf2:g2≠fb:=HA.out g2 (HARs.out g2 rfl)
     obtain⟨t0,t1,t2⟩:=zc7 s vs HVLs.out i hlti
     have d0:wr.cell? ⟨g2,i * 3,none⟩=some (.int .u8 s[i].ahead.toNat):=by rw[zbn HR2.out.kp hgl2 hgf2,hcs2 _ (by omega)];exact t0
     have d1 : wr.cell? ⟨g2, i * 3 + 1, none⟩ = some (vs[i]'hiv) := by rw [zbn HR2.out.kp hgl2 hgf2, hcs2 _ (by omega)]; exact t1
     have d2:wr.cell? ⟨g2,i * 3+2,none⟩=some (.int .u8 s[i].behind.toNat):=by rw[zbn HR2.out.kp hgl2 hgf2,hcs2 _ (by omega)];exact t2
     have htr:=RTerms.get HTS.out i hlti hiv
     have hdt:depT s[i]≤k:=Nat.le_trans (zcy s i hlti) hdj
     have hsd:=firstS_drop (Eb names E) s i hlti
     have hlti':(i:Int)<s.length:=by omega
     obtain⟨t,ht⟩:∃ t,t=s[i]:=⟨_,rfl⟩
     obtain ⟨vv, hvv⟩ : ∃ vv, vv = vs[i]'hiv := ⟨_, rfl⟩
     rw[← ht] at d0 d2 htr hdt hsd
     rw[← hvv] at d1 htr
     have HSD:Hid (Thk.zaP (Eb names E) (s.drop i)=Thk.zbA (Eb names E) t++(if Thk.zaB (Eb names E) t then Thk.zaP (Eb names E) (s.drop (i+1)) else [])):=hsd
     clear hsd ht hvv t0 t1 t2 hcs2 hgl2 hgf2
     have HTR:Hid (RTerm W A t vv):=htr
     obtain⟨ta,tp,tb⟩:=t
     simp only[RTerm] at htr
     simp only[depT] at hdt
     obtain⟨vt,vx,rfl⟩:=RPiece.oneCell htr
     simp only[Thk.Term.ahead,Thk.Term.behind] at d0 d2
     have HTP:Hid (RPiece W A tp (.iface vt vx)):=htr
     clear htr
     have hmk:=fun O=>zfa k hC (wr.alloc O) mb eb fb names E B2 A tp (.iface vt vx) (HF.out.kpo (HR2.out.kp.alloc hsz2 O) HFB.out hne) (by rw[za5 _ _ (za7 HR2.out.row)];exact HR2.out.row) HB2.out hne (RPiece.kept (hSm.out _ (HR2.out.kp.alloc hsz2 O)) tp _ HTP.out) HA.out hdt
     simp only[zag,rowV] at hmk
     have hw9:w.heap.size<wr.heap.size:=by omega
     go_wp2_with fail
     refine (hmk _).mono ?_
     rintro e w1 ⟨rfl,hk1,hf1⟩
     have hs1:=hk1.size
     simp at hs1
     have hk3:Kp fb W.heap.size W w1:=(HR2.out.kp.alloc hsz2 _).trans (hk1.mono (by simp;omega))
     have hfr:fb<wr.heap.size:=za7 HR2.out.row
     have hct:∀ o,w1.cell? ⟨wr.heap.size,o,none⟩=(#[.int .u8 ta.toNat,.iface vt vx,.int .u8 tb.toNat]:Array Value)[o]? := fun o=>by
      rw[zbn hk1 (by simp) (by omega)];exact za0 (za4 _ _) o
     have hbx1:∀ o,w1.cell? ⟨w.heap.size,o,none⟩=(#[.map (some mb),.slice (some ⟨eb,0,none⟩) names.length names.length]:Array Value)[o]? := fun o=>by
      rw[zbn hk1 (by simp;omega) (by omega),World.cell?_alloc_lt _ _ _ (by simp only[];omega)];exact hbx o
     have hem:=emptyTerm_any w1 mb eb names E A (.mk ta tp tb) (.iface vt vx) (HF.out.kpo hk3 HFB.out hne) (RTerm.kept (hSm.out _ hk3) _ _ HTR.out)
     simp only[zag,termV,Thk.Term.ahead,Thk.Term.behind] at hem
     have HK3:Hid (Kp fb W.heap.size W w1):=hk3
     have HF1:Hid (w1.heap[fb]? = some (zaf (markL names B2 (Thk.zaG (Eb names E) tp)))):=hf1
     have HFT:Hid (Thk.zbA (Eb names E) (.mk ta tp tb)=Thk.zaG (Eb names E) tp):=by show _=_;simp only[Thk.zbA]
     have hw91:w.heap.size<w1.heap.size:=by omega
     have hwr1:wr.heap.size<w1.heap.size:=by omega
     have hfb1:fb<w1.heap.size:=by omega
     clear hmk hk1 hf1 hk3 hbx d0 d1 d2
     cases hr:Thk.zaB (Eb names E) (.mk ta tp tb) with
     | true=>
      rw[hr] at hem
      have HRr:Hid (Thk.zaB (Eb names E) (.mk ta tp tb)=true):=hr
      clear hr
      go_wp2_with fail
      refine hem.mono ?_
      rintro e w2 ⟨rfl,hb2⟩
      have hs2:=hb2.size
      have hN:MkRel W fb (markL names B2 (Thk.zaG (Eb names E) tp)) w2:=⟨HK3.out.trans (Kp.of (hb2.mono (by omega))),by rw[hb2.block _ hfb1];exact HF1.out⟩
      clear hem hb2
      go_wp2_with fail
      go_roundg (s.length - (i+1))
      case measure=>omega
      case rel=>
       refine⟨i+1,_,rfl,by omega,by go_num,hN,by rw[zdp];exact HB2.out,?_⟩
       show _=_
       rw[hS.out,HSD.out,HFT.out,if_pos HRr.out,zeh]
     | false=>
      rw[hr] at hem
      have HRr:Hid (Thk.zaB (Eb names E) (.mk ta tp tb)=false):=hr
      clear hr
      go_wp2_with fail
      refine hem.mono ?_
      rintro e w2 ⟨rfl,hb2⟩
      have hs2:=hb2.size
      have hN:MkRel W fb (markL names B1 (Thk.zaP (Eb names E) s)) w2:=by
       refine⟨HK3.out.trans (Kp.of (hb2.mono (by omega))),?_⟩
       rw[hb2.block _ hfb1,HF1.out,hS.out,HSD.out,HFT.out,HRr.out]
       simp
      have hNN:=NEXT.out w2 hN
      clear hem hb2 hN
      go_wp2_with fail
      go_roundg (c.length - (j+1))
      case measure=>omega
      case rel=>exact hNN
    ·have hie:i=s.length:=by omega
     have hN:MkRel W fb (markL names B1 (Thk.zaP (Eb names E) s)) wr:=by
      refine⟨HR2.out.kp,?_⟩
      rw[HR2.out.row,hS.out,hie,List.drop_length]
      rfl
     have hNN:=NEXT.out wr hN
     clear hS hN
     go_wp2_with fail
     go_roundg (c.length - (j+1))
     case measure=>omega
     case rel=>exact hNN
  ·have hje:j=c.length:=by omega
   have hN:wr.heap[fb]? = some (zaf (markL names B (Thk.zaJ (Eb names E) c))):=by
    rw[HR.out.row,hH.out,hje,List.drop_length]
    rfl
   have HN:=(show Hid _ from hN)
   clear hH hN
   go_wp2_with fail
   go_end0
   exact⟨rfl,(Kp.of HB0.out).trans (HR.out.kp.mono (by omega)),HN.out⟩
theorem mark_all (k:Nat):MarkC k:=by
 induction k using Nat.strongRecOn with
 | ind k ih=>exact mark_step k ih
abbrev Mat:=Nat→Nat→Bool
def Wm (M:Mat):Nat→Mat
 | 0=>M
 | m+1=>fun i j=>Wm M m i j || (Wm M m i m && Wm M m m j)
theorem Wm_self (M:Mat) (m t:Nat):Wm M (m+1) m t=Wm M m m t:=by
 simp only[Wm]
 cases Wm M m m m<;>cases Wm M m m t<;>rfl
def rowL (N:Nat) (f:Nat→Bool):List Bool:=(List.range N).map f
theorem rowL_len (N:Nat) (f:Nat→Bool):(rowL N f).length=N:=by simp[rowL]
structure MatAt (w:World) (xb N:Nat) (rbs:List Nat) (M:Mat):Prop where
 rows:w.heap[xb]? = some (.cells (rbs.map (rowV · N)).toArray 74 (0,0))
 len:rbs.length=N
 row:∀ i (h:i<rbs.length),w.heap[rbs[i]]? = some (zaf (rowL N (M i)))
 nodup:rbs.Nodup
theorem MatAt.congr {w:World} {xb N:Nat} {rbs:List Nat} {M M':Mat} (h:MatAt w xb N rbs M) (he:∀ i j,i<N→j<N→M i j=M' i j):MatAt w xb N rbs M':=by
 refine⟨h.rows,h.len,fun i hi=>?_,h.nodup⟩
 rw[h.row i hi]
 congr 2
 unfold rowL
 apply List.map_congr_left
 intro j hj
 exact he i j (by rw[← h.len];exact hi) (by simpa using hj)
structure KpM (rbs:List Nat) (B:Nat) (w w':World):Prop where
 os:w'.os=w.os
 tape:w'.tape=w.tape
 output:w'.output=w.output
 size:w.heap.size≤w'.heap.size
 block:∀ k,k<B→k ∉ rbs→w'.heap[k]? = w.heap[k]?
theorem KpM.refl (rbs:List Nat) (B:Nat) (w:World):KpM rbs B w w:=⟨rfl,rfl,rfl,Nat.le_refl _,fun _ _ _=>rfl⟩
theorem KpM.trans {rbs:List Nat} {B:Nat} {a b c:World} (h:KpM rbs B a b) (k:KpM rbs B b c):KpM rbs B a c:=
 ⟨k.os.trans h.os,k.tape.trans h.tape,k.output.trans h.output,Nat.le_trans h.size k.size,fun i hi hr=>(k.block i hi hr).trans (h.block i hi hr)⟩
theorem KpM.set {rbs:List Nat} {B:Nat} {a w:World} (h:KpM rbs B a w) {b o:Nat} (hb:b ∈ rbs) (u:Value):KpM rbs B a (w.setCell ⟨b,o,none⟩ u):=
 h.trans ⟨rfl,rfl,rfl,by simp[World.setCell],fun k _ hr=>Below.heap_setCell _ _ _ _ (fun e=>hr (e ▸ hb))⟩
theorem MatAt.cell {w:World} {xb N:Nat} {rbs:List Nat} {M:Mat} (h:MatAt w xb N rbs M) (i:Nat) (hi:i<rbs.length):w.cell? ⟨xb,i,none⟩=some (.slice (some ⟨rbs[i],0,none⟩) N N):=by
 rw[za0 h.rows];simp[hi,rowV]
theorem MatAt.at {w:World} {xb N:Nat} {rbs:List Nat} {M:Mat} (h:MatAt w xb N rbs M) (i j:Nat) (hi:i<rbs.length) (hj:j<N):w.cell? ⟨rbs[i],j,none⟩=some (.bool (M i j)):=by
 rw[za0 (h.row i hi)];simp[rowL,hj]
theorem rowL_set (N:Nat) (f:Nat→Bool) (t:Nat):(rowL N f).set t true=rowL N (fun j=>if j=t then true else f j):=by
 apply List.ext_getElem
 ·simp[rowL]
 ·intro i h1 h2
  simp only[rowL,List.getElem_set,List.getElem_map,List.getElem_range]
  by_cases e:t=i
  ·subst e;simp
  ·have:¬ i=t:=fun h=>e h.symm
   simp[e,this]
theorem MatAt.set {w:World} {xb N:Nat} {rbs:List Nat} {M:Mat} (h:MatAt w xb N rbs M) (f t:Nat) (hf:f<rbs.length):MatAt (w.setCell ⟨rbs[f],t,none⟩ (.bool true)) xb N rbs (fun i j=>if i=f∧j=t then true else M i j):=by
 refine⟨?_,h.len,fun i hi=>?_,h.nodup⟩
 ·rw[Below.heap_setCell]
  ·exact h.rows
  ·intro e
   have h1:=h.row f hf
   simp only[] at e
   rw[← e,h.rows] at h1
   simp[zaf] at h1
 ·by_cases e:i=f
  ·subst e
   rw[za6 (h.row i hi),zdV,rowL_set]
   congr 3
   funext j
   by_cases e2:j=t<;>simp[e2]
  ·have hne:rbs[i]≠rbs[f]:=fun e2=>e ((List.getElem_inj h.nodup).1 e2)
   rw[Below.heap_setCell _ _ _ _ hne,h.row i hi]
   congr 3
   funext j
   simp[e]
theorem MatAt.frozen {w:World} {xb N:Nat} {rbs:List Nat} {M:Mat} (h:MatAt w xb N rbs M) (i:Nat) (hi:i<rbs.length) (o:Nat):w.frozen? ⟨rbs[i],o,none⟩=false:=za2 (h.row i hi) o
theorem spread_any (w:World) (xb N:Nat) (rbs:List Nat) (M:Mat) (hM:MatAt w xb N rbs M) (hN:N≤20) :
  Calls Tryz.prog 132 #[.slice (some ⟨xb,0,none⟩) N N] w fun e w'=>e = .returned (.tuple #[])∧MatAt w' xb N rbs (Wm M N)∧KpM rbs w.heap.size w w':=by
 have HL:Hid (rbs.length=N):=hM.len
 have HM0:Hid (MatAt w xb N rbs M):=hM
 clear hM
 go_enter Tryz.func132,Tryz.ntmps132
 go_wp2_with fail
 go_loopg [7] N (fun n i wr=>∃ m:Nat,n=N - m∧m≤N∧i = .int .i64 m∧MatAt wr xb N rbs (Wm M m)∧KpM rbs w.heap.size w wr)
 case atStart=>exact⟨0,rfl,Nat.zero_le _,rfl,HM0.out,KpM.refl _ _ _⟩
 case round=>
  obtain⟨m,rfl,hm,rfl,hA,hK⟩:=hrel
  have HA:Hid (MatAt wr xb N rbs (Wm M m)):=hA
  have HK:Hid (KpM rbs w.heap.size w wr):=hK
  clear hA hK
  by_cases hltm:m<N
  ·have hltm':(m:Int)<N:=by omega
   go_wp2_with fail
   go_loopg [12] N (fun n i wx=>∃ f:Nat,n=N - f∧f≤N∧i = .int .i64 f∧MatAt wx xb N rbs (fun i j=>if i<f then Wm M (m+1) i j else Wm M m i j)∧KpM rbs w.heap.size w wx)
   case atStart=>exact⟨0,rfl,Nat.zero_le _,rfl,HA.out.congr (fun i j _ _=>by simp),HK.out⟩
   case round=>
    obtain⟨f,rfl,hf,rfl,hA2,hK2⟩:=hrel
    have HA2:Hid (MatAt wr xb N rbs (fun i j=>if i<f then Wm M (m+1) i j else Wm M m i j)):=hA2
    have HK2:Hid (KpM rbs w.heap.size w wr):=hK2
    clear hA2 hK2
    by_cases hltf:f<N
    ·have hltf':(f:Int)<N:=by omega
     have hfr:f<rbs.length:=by rw[HL.out];exact hltf
     have c1:=HA2.out.cell f hfr
     have c2:=HA2.out.at f m hfr hltm
     simp only[Nat.lt_irrefl,if_false] at c2
     cases hv:Wm M m f m with
     | false=>
      rw[hv] at c2
      have hN1:MatAt wr xb N rbs (fun i j=>if i<f+1 then Wm M (m+1) i j else Wm M m i j):=by
       refine HA2.out.congr (fun i j _ _=>?_)
       by_cases h1:i<f
       ·simp[h1,Nat.lt_succ_of_lt h1]
       ·by_cases h2:i=f
        ·subst h2;simp[Wm,hv]
        ·have h3:¬ i<f+1:=by omega
         simp[h1,h3]
      clear hv
      go_wp2_with fail
      go_roundg (N - (f+1))
      case measure=>omega
      case rel=>exact⟨f+1,rfl,by omega,by go_num,hN1,HK2.out⟩
     | true=>
      rw[hv] at c2
      have HV:Hid (Wm M m f m=true):=hv
      clear hv
      go_wp2_with fail
      go_loopg [25] N (fun n i wy=>∃ t:Nat,n=N - t∧t≤N∧i = .int .i64 t∧MatAt wy xb N rbs (fun i j=>if i<f then Wm M (m+1) i j else if i=f∧j<t then Wm M (m+1) i j else Wm M m i j)∧KpM rbs w.heap.size w wy)
      case atStart=>exact⟨0,rfl,Nat.zero_le _,rfl,HA2.out.congr (fun i j _ _=>by simp),HK2.out⟩
      case round=>
       obtain⟨t,rfl,ht,rfl,hA3,hK3⟩:=hrel
       have HA3:Hid (MatAt wr xb N rbs (fun i j=>if i<f then Wm M (m+1) i j else if i=f∧j<t then Wm M (m+1) i j else Wm M m i j)):=hA3
       have HK3:Hid (KpM rbs w.heap.size w wr):=hK3
       clear hA3 hK3
       by_cases hltt:t<N
       ·have hltt':(t:Int)<N:=by omega
        have hmr:m<rbs.length:=by rw[HL.out];exact hltm
        have d1:=HA3.out.cell f hfr
        have d2:=HA3.out.cell m hmr
        have d3:=HA3.out.at m t hmr hltt
        have d4:=HA3.out.at f t hfr hltt
        have d5:=HA3.out.frozen f hfr t
        have hval:(if m<f then Wm M (m+1) m t else if m=f∧t<t then Wm M (m+1) m t else Wm M m m t)=Wm M m m t:=by
         rw[Wm_self];simp
        rw[hval] at d3
        obtain⟨old,hold⟩:∃ old,wr.cell? ⟨rbs[f],t,none⟩=some (.bool old):=⟨_,d4⟩
        obtain⟨bf,hbf⟩:∃ b,b=rbs[f]:=⟨_,rfl⟩
        obtain⟨bm,hbm⟩:∃ b,b=rbs[m]:=⟨_,rfl⟩
        have hmem:bf ∈ rbs:=by rw[hbf];exact List.getElem_mem hfr
        have hset:=HA3.out.set f t hfr
        rw[← hbf] at d1 d5 hold hset
        rw[← hbm] at d2 d3
        clear d4 hval hbf hbm c1 c2
        cases hv2:Wm M m m t with
        | false=>
         rw[hv2] at d3
         have hN3:MatAt wr xb N rbs (fun i j=>if i<f then Wm M (m+1) i j else if i=f∧j<t+1 then Wm M (m+1) i j else Wm M m i j):=by
          refine HA3.out.congr (fun i j _ _=>?_)
          by_cases h1:i<f
          ·simp[h1]
          ·by_cases h2:i=f
           ·subst h2
            by_cases h3:j<t
            ·simp[h3,Nat.lt_succ_of_lt h3]
            ·by_cases h4:j=t
             ·subst h4;simp[Wm,hv2]
             ·have h5:¬ j<t+1:=by omega
              simp[h3,h5]
           ·simp[h1,h2]
         clear hv2 hset hold
         go_wp2_with fail
         go_roundg (N - (t+1))
         case measure=>omega
         case rel=>exact⟨t+1,rfl,by omega,by go_num,hN3,HK3.out⟩
        | true=>
         rw[hv2] at d3
         have hN3:MatAt (wr.setCell ⟨bf,t,none⟩ (.bool true)) xb N rbs (fun i j=>if i<f then Wm M (m+1) i j else if i=f∧j<t+1 then Wm M (m+1) i j else Wm M m i j):=by
          refine hset.congr (fun i j _ _=>?_)
          by_cases h1:i<f
          ·have h2:¬ i=f:=by omega
           simp[h1,h2]
          ·by_cases h2:i=f
           ·subst h2
            by_cases h4:j=t
            ·subst h4;simp[Wm,hv2,HV.out]
            ·by_cases h3:j<t
             ·simp[h3,h4,Nat.lt_succ_of_lt h3]
             ·have h5:¬ j<t+1:=by omega
              simp[h3,h4,h5]
           ·simp[h1,h2]
         have HK4:Hid (KpM rbs w.heap.size w (wr.setCell ⟨bf,t,none⟩ (.bool true))):=HK3.out.set hmem _
         clear hv2 hset
         go_wp2_with fail
         go_roundg (N - (t+1))
         case measure=>omega
         case rel=>exact⟨t+1,rfl,by omega,by go_num,hN3,HK4.out⟩
       ·have hte:t=N:=by omega
        have hN1:MatAt wr xb N rbs (fun i j=>if i<f+1 then Wm M (m+1) i j else Wm M m i j):=by
         refine HA3.out.congr (fun i j _ hj=>?_)
         by_cases h1:i<f
         ·simp[h1,Nat.lt_succ_of_lt h1]
         ·by_cases h2:i=f
          ·subst h2;have:j<t:=by omega
           simp[this]
          ·have h3:¬ i<f+1:=by omega
           simp[h1,h2,h3]
        clear hte
        go_wp2_with fail
        go_roundg (N - (f+1))
        case measure=>omega
        case rel=>exact⟨f+1,rfl,by omega,by go_num,hN1,HK3.out⟩
    ·have hfe:f=N:=by omega
     have hN1:MatAt wr xb N rbs (Wm M (m+1)):=by
      refine HA2.out.congr (fun i j hi _=>?_)
      have:i<f:=by omega
      simp[this]
     clear hfe
     go_wp2_with fail
     go_roundg (N - (m+1))
     case measure=>omega
     case rel=>exact⟨m+1,rfl,by omega,by go_num,hN1,HK2.out⟩
  ·have hme:m=N:=by omega
   have HE:Hid (MatAt wr xb N rbs (Wm M N)):=by have h:=HA.out;rw[hme] at h;exact h
   clear hme
   go_wp2_with fail
   go_end0
   exact⟨rfl,HE.out,HK.out⟩
end Go.Proofs.YtiganlkabilblaaGreatDoor
