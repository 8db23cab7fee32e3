import Derived.Test.YtiganlkabilblaaDoorV05
set_option linter.all false
set_option maxHeartbeats 64000000
set_option maxRecDepth 100000
namespace Go.Proofs.YtiganlkabilblaaDoor
open Go.RowKit Go.WideMaps Go.Maps
def Qp (g:List Thk.ze) (p:Thk.Z5→Bool):Option Nat→Prop
 | none=>∀ i (h:i<g.length),p g[i].choice=false
 | some i=>∃ h:i<g.length,p g[i].choice=true∧∀ t (ht:t<g.length),t<i→p g[t].choice=false
theorem zfe (w:World) (mb eb:Nat) (names:List Thk.z7) (E:List Bool) (A:Nat→Prop) (c:Thk.Z5) (u:Value) (hF:zQ w mb eb names E) (hc:Zt w A c u) :
  Calls Tryd.prog 21 #[zI mb eb names.length,u] w fun e w'=>e = .returned (.bool (Thk.zx (zv names) c))∧Below w.heap.size w w':=by
 have hmf:∀ (fn:Fn) (first cap:Array Value) (w:World),(Instr.makeFunc fn first cap).run Tryd.prog w = .ok (.func fn first cap) w:=fun _ _ _ _=>rfl
 have hB:Below w.heap.size w (w.alloc (ZB mb eb names.length)):=zc _ _
 have hs:=ziR (Qt c) (w.alloc (ZB mb eb names.length)) w.heap.size mb eb names E A c u ⟨zk _ _,hF.below hB⟩ (hc.kept (ZF hB)) (Nat.le_refl _)
 obtain⟨us,hrow,_⟩:=hc
 obtain⟨ua,uc,rfl⟩:=zl hrow.1
 generalize Thk.zx (zv names) c=r at *
 simp only[zI]
 clear hF hrow
 go_enter Tryd.func21,Tryd.ntmps21
 go_wp2_with fail
 refine hs.mono ?_
 rintro e w1 ⟨rfl,hb⟩
 clear hs
 go_wp2_with fail
 go_ret
 exact⟨rfl,hB.trans (hb.mono (by simp))⟩
theorem zeY (w:World) (mb eb:Nat) (names:List Thk.z7) (E:List Bool) (A:Nat→Prop) (g:List Thk.ze) (ga:Addr) (gc er:Nat) (hF:zQ w mb eb names E) (hG:Zj w A g (.slice (some ga) g.length gc)) (hgl:g.length≤20) :
  Calls Tryd.prog 20 #[.slice (some ga) g.length gc,.int .i64 er,.func (.func 21) #[zI mb eb names.length] #[]] w fun e w'=>
   Below w.heap.size w w'∧∃ o,Qp g (Thk.zx (zv names)) o∧e = .returned (JP er o):=by
 have HF:Hid (zQ w mb eb names E):=hF
 have HG:Hid (Zj w A g (.slice (some ga) g.length gc)):=hG
 clear hF hG
 simp only[zI]
 go_enter Tryd.func20,Tryd.ntmps20
 go_wp2_with fail
 go_loopg [11] g.length (fun m i wr=>∃ (j:Nat),m=g.length - j∧j≤g.length∧i = .int .i64 j∧Below w.heap.size w wr∧Hid (∀ t (ht:t<g.length),t<j→Thk.zx (zv names) g[t].choice=false))
 case atStart=>exact⟨0,rfl,Nat.zero_le _,rfl,Below.refl _ _,fun t _ ht=>by omega⟩
 case round=>
  obtain⟨j,rfl,hj,rfl,hb,hno⟩:=hrel
  have HB:Hid (Below w.heap.size w wr):=hb
  have hsz:=hb.size
  clear hb
  by_cases hlt:j<g.length
  ·have hGr:Zj wr A g (.slice (some ga) g.length gc):=HG.out.kept (ZF HB.out)
   obtain⟨gb,a,c,rfl,hgb,hAgb,c0,c1,hCh,hnm⟩:=hGr.at j hlt
   have hlt':(j:Int)<g.length:=by omega
   have hh:=fun O=>zfe (wr.alloc O) mb eb names E A g[j].choice _ (HF.out.below (HB.out.alloc hsz O)) (hCh.kept (ZF (zc wr O)))
   simp only[zI] at hh
   clear hGr hCh hnm
   cases hr:Thk.zx (zv names) g[j].choice with
   | true=>
    simp only[hr] at hh
    have HFI:Hid (Qp g (Thk.zx (zv names)) (some j)):=⟨hlt,hr,fun t ht htj=>hno.out t ht htj⟩
    clear hr hno
    go_wp2_with fail
    refine (hh _).mono ?_
    rintro e w1 ⟨rfl,hb1⟩
    have hs1:=hb1.size
    simp at hs1
    have hb3:Below w.heap.size w w1:=(HB.out.alloc hsz _).trans (hb1.mono (by simp;omega))
    clear hh hb1
    go_wp2_with fail
    go_ret
    exact⟨hb3,some j,HFI.out,rfl⟩
   | false=>
    simp only[hr] at hh
    have HN:Hid (∀ t (ht:t<g.length),t<j+1→Thk.zx (zv names) g[t].choice=false):=by
     intro t ht htj
     by_cases e:t=j
     ·subst e;exact hr
     ·exact hno.out t ht (by omega)
    clear hr hno
    go_wp2_with fail
    refine (hh _).mono ?_
    rintro e w1 ⟨rfl,hb1⟩
    have hs1:=hb1.size
    simp at hs1
    have hb3:Below w.heap.size w w1:=(HB.out.alloc hsz _).trans (hb1.mono (by simp;omega))
    clear hh hb1
    go_wp2_with fail
    go_roundg (g.length - (j+1))
    case measure=>omega
    case rel=>exact⟨j+1,rfl,by omega,by go_num,hb3,HN⟩
  ·have HFI:Hid (Qp g (Thk.zx (zv names)) none):=fun t ht=>hno.out t ht (by omega)
   clear hno
   go_wp2_with fail
   go_ret
   exact⟨HB.out,none,HFI.out,rfl⟩
theorem zfc (w:World) (mb eb:Nat) (names:List Thk.z7) (E:List Bool) (A:Nat→Prop) (c:Thk.Z5) (u:Value) (hF:zQ w mb eb names E) (hc:Zt w A c u) :
  Calls Tryd.prog 23 #[zI mb eb names.length,u] w fun e w'=>e = .returned (.bool (Thk.zx (zJ (Eb names E)) c))∧Below w.heap.size w w':=by
 have hmf:∀ (fn:Fn) (first cap:Array Value) (w:World),(Instr.makeFunc fn first cap).run Tryd.prog w = .ok (.func fn first cap) w:=fun _ _ _ _=>rfl
 have hB:Below w.heap.size w (w.alloc (ZB mb eb names.length)):=zc _ _
 have hs:=ziQ (Qt c) (w.alloc (ZB mb eb names.length)) w.heap.size mb eb names E A c u ⟨zk _ _,hF.below hB⟩ (hc.kept (ZF hB)) (Nat.le_refl _)
 obtain⟨us,hrow,_⟩:=hc
 obtain⟨ua,uc,rfl⟩:=zl hrow.1
 generalize Thk.zx (zJ (Eb names E)) c=r at *
 simp only[zI]
 clear hF hrow
 go_enter Tryd.func23,Tryd.ntmps23
 go_wp2_with fail
 refine hs.mono ?_
 rintro e w1 ⟨rfl,hb⟩
 clear hs
 go_wp2_with fail
 go_ret
 exact⟨rfl,hB.trans (hb.mono (by simp))⟩
theorem zeW (w:World) (mb eb:Nat) (names:List Thk.z7) (E:List Bool) (A:Nat→Prop) (g:List Thk.ze) (ga:Addr) (gc er:Nat) (hF:zQ w mb eb names E) (hG:Zj w A g (.slice (some ga) g.length gc)) (hgl:g.length≤20) :
  Calls Tryd.prog 20 #[.slice (some ga) g.length gc,.int .i64 er,.func (.func 23) #[zI mb eb names.length] #[]] w fun e w'=>
   Below w.heap.size w w'∧∃ o,Qp g (Thk.zx (zJ (Eb names E))) o∧e = .returned (JP er o):=by
 have HF:Hid (zQ w mb eb names E):=hF
 have HG:Hid (Zj w A g (.slice (some ga) g.length gc)):=hG
 clear hF hG
 simp only[zI]
 go_enter Tryd.func20,Tryd.ntmps20
 go_wp2_with fail
 go_loopg [11] g.length (fun m i wr=>∃ (j:Nat),m=g.length - j∧j≤g.length∧i = .int .i64 j∧Below w.heap.size w wr∧Hid (∀ t (ht:t<g.length),t<j→Thk.zx (zJ (Eb names E)) g[t].choice=false))
 case atStart=>exact⟨0,rfl,Nat.zero_le _,rfl,Below.refl _ _,fun t _ ht=>by omega⟩
 case round=>
  obtain⟨j,rfl,hj,rfl,hb,hno⟩:=hrel
  have HB:Hid (Below w.heap.size w wr):=hb
  have hsz:=hb.size
  clear hb
  by_cases hlt:j<g.length
  ·have hGr:Zj wr A g (.slice (some ga) g.length gc):=HG.out.kept (ZF HB.out)
   obtain⟨gb,a,c,rfl,hgb,hAgb,c0,c1,hCh,hnm⟩:=hGr.at j hlt
   have hlt':(j:Int)<g.length:=by omega
   have hh:=fun O=>zfc (wr.alloc O) mb eb names E A g[j].choice _ (HF.out.below (HB.out.alloc hsz O)) (hCh.kept (ZF (zc wr O)))
   simp only[zI] at hh
   clear hGr hCh hnm
   cases hr:Thk.zx (zJ (Eb names E)) g[j].choice with
   | true=>
    simp only[hr] at hh
    have HFI:Hid (Qp g (Thk.zx (zJ (Eb names E))) (some j)):=⟨hlt,hr,fun t ht htj=>hno.out t ht htj⟩
    clear hr hno
    go_wp2_with fail
    refine (hh _).mono ?_
    rintro e w1 ⟨rfl,hb1⟩
    have hs1:=hb1.size
    simp at hs1
    have hb3:Below w.heap.size w w1:=(HB.out.alloc hsz _).trans (hb1.mono (by simp;omega))
    clear hh hb1
    go_wp2_with fail
    go_ret
    exact⟨hb3,some j,HFI.out,rfl⟩
   | false=>
    simp only[hr] at hh
    have HN:Hid (∀ t (ht:t<g.length),t<j+1→Thk.zx (zJ (Eb names E)) g[t].choice=false):=by
     intro t ht htj
     by_cases e:t=j
     ·subst e;exact hr
     ·exact hno.out t ht (by omega)
    clear hr hno
    go_wp2_with fail
    refine (hh _).mono ?_
    rintro e w1 ⟨rfl,hb1⟩
    have hs1:=hb1.size
    simp at hs1
    have hb3:Below w.heap.size w w1:=(HB.out.alloc hsz _).trans (hb1.mono (by simp;omega))
    clear hh hb1
    go_wp2_with fail
    go_roundg (g.length - (j+1))
    case measure=>omega
    case rel=>exact⟨j+1,rfl,by omega,by go_num,hb3,HN⟩
  ·have HFI:Hid (Qp g (Thk.zx (zJ (Eb names E))) none):=fun t ht=>hno.out t ht (by omega)
   clear hno
   go_wp2_with fail
   go_ret
   exact⟨HB.out,none,HFI.out,rfl⟩
def ZJ (names:List Thk.z7) (B:List Bool) (l:List Thk.z7):List Bool:=l.foldl (fun B b=>B.set (Up names b) true) B
theorem UO (names:List Thk.z7) (B:List Bool) (l:List Thk.z7):(ZJ names B l).length=B.length:=by
 induction l generalizing B with
 | nil=>rfl
 | cons b l ih=>show (ZJ names (B.set _ true) l).length=_;rw[ih];simp
theorem zbO (names:List Thk.z7) (B:List Bool) (l l':List Thk.z7):ZJ names B (l++l')=ZJ names (ZJ names B l) l':=by
 simp[ZJ,List.foldl_append]
theorem zQ.kpo {w w':World} {mb eb fb:Nat} {names:List Thk.z7} {E B:List Bool} (h:zQ w mb eb names E) (hk:Kp fb w.heap.size w w') (hfb:w.heap[fb]? = some (zH B)) (hne:eb≠fb):zQ w' mb eb names E:=by
 refine⟨h.map.same (hk.block mb h.map.lt ?_),by rw[hk.block _ (zd h.emp) hne];exact h.emp,h.len,h.pos,h.le⟩
 intro e
 subst e
 obtain⟨D,⟨es,clock,h1,_⟩,_⟩:=h.map
 rw[h1] at hfb
 simp[zH] at hfb
def Jm (fb n:Nat):Value:=.slice (some ⟨fb,0,none⟩) n n
def U4 (k:Nat):Prop:=∀ (w:World) (mb eb fb:Nat) (names:List Thk.z7) (E B:List Bool) (A:Nat→Prop) (c:Thk.Z5) (u:Value),zQ w mb eb names E→w.heap[fb]? = some (zH B)→B.length=names.length→eb≠fb →
 Zt w A c u→(∀ g,A g→g≠fb)→Qt c≤k →
 Calls Tryd.prog 39 #[zI mb eb names.length,u,Jm fb names.length] w fun e w'=>e = .returned (.tuple #[])∧Kp fb w.heap.size w w'∧w'.heap[fb]? = some (zH (ZJ names B (Thk.ZC (Eb names E) c)))
theorem zgw (k:Nat) (hC:∀ k',k'<k→U4 k') (w:World) (mb eb fb:Nat) (names:List Thk.z7) (E B:List Bool) (A:Nat→Prop) (p:Thk.zC) (v:Value) (hF:zQ w mb eb names E) (hfb:w.heap[fb]? = some (zH B)) (hBl:B.length=names.length) (hne:eb≠fb)
  (hp:zp w A p v) (hA:∀ g,A g→g≠fb) (hk:Y6 p≤k) :
  Calls Tryd.prog 56 #[zI mb eb names.length,v,Jm fb names.length] w fun e w'=>e = .returned (.tuple #[])∧Kp fb w.heap.size w w'∧w'.heap[fb]? = some (zH (ZJ names B (Thk.Zy (Eb names E) p))):=by
 have hle:=hF.le
 have hpos:=hF.pos
 have hfl:=zd hfb
 have hcl:=z8 hfb
 have hfz:=zi hfb
 have HFB:Hid (w.heap[fb]? = some (zH B)):=hfb
 simp only[zI,Jm]
 have still:∀ O,w.heap[fb]? = some (zH B)→(w.alloc O).heap[fb]? = some (zH B):=fun O h=>by rw[zm _ _ hfl];exact h
 cases p with
 | name b=>
  simp only[zp] at hp
  obtain⟨rfl,hbl⟩:=hp
  have hix:=YU b hpos
  have hB:∀ O1 O2,Below w.heap.size w ((w.alloc O1).alloc O2):=fun O1 O2=>(zc _ _).alloc (by simp) _
  have hlk:=fun O1 O2=>(hF.map.below (hB O1 O2)).look b hbl
  have e1:ZJ names B (Thk.Zy (Eb names E) (.name b))=B.set (Up names b) true:=rfl
  rw[e1]
  have hcx:w.cell? ⟨fb,Up names b,none⟩=some (.bool (B.getD (Up names b) false)):=by
   have hh:Up names b<B.length:=by omega
   rw[hcl];simp[hh]
  generalize Up names b=ix at *
  clear hF hC hk hfb e1 hB still hBl hcl
  have a1:=Ui
  go_enter Tryd.func56,Tryd.ntmps56
  go_wp2_with fail
  go_end0
  refine⟨rfl,(((Kp.refl _ _ _).setRb _ _).alloc (by simp) _).alloc (by simp) _,?_⟩
  rw[zm _ _ (by simp;omega),zm _ _ (by simp;omega),zo HFB.out,qI]
 | lit b=>
  simp only[zp] at hp
  subst hp
  have a1:=Uh
  have a2:=Ug
  clear hF hC hk hfb
  go_enter Tryd.func56,Tryd.ntmps56
  go_wp2_with fail
  go_end0
  exact⟨rfl,Kp.of (zc _ _),still _ HFB.out⟩
 | cls l=>
  simp only[zp] at hp
  obtain⟨u,rfl,_⟩:=hp
  have a1:=Ue
  have a2:=Ud
  clear hF hC hk hfb
  go_enter Tryd.func56,Tryd.ntmps56
  go_wp2_with fail
  go_end0
  exact⟨rfl,Kp.of (zc _ _),still _ HFB.out⟩
 | any=>
  simp only[zp] at hp
  subst hp
  have a1:=Uc
  have a2:=Vn
  clear hF hC hk hfb
  go_enter Tryd.func56,Tryd.ntmps56
  go_wp2_with fail
  go_end0
  exact⟨rfl,Kp.of (zc _ _),still _ HFB.out⟩
 | group c=>
  simp only[zp] at hp
  obtain⟨u,us,rfl,hrow,hseqs⟩:=hp
  obtain⟨ua,uc,rfl⟩:=zl hrow.1
  have hdep:Qt c<k:=by simp only[Y6] at hk;omega
  have e1:ZJ names B (Thk.Zy (Eb names E) (.group c))=ZJ names B (Thk.ZC (Eb names E) c):=rfl
  rw[e1]
  have hB:∀ O1 O2,Below w.heap.size w ((w.alloc O1).alloc O2):=fun O1 O2=>(zc _ _).alloc (by simp) _
  have hch:=fun O1 O2=>hC _ hdep ((w.alloc O1).alloc O2) mb eb fb names E B A c (.slice ua c.length uc) (hF.below (hB O1 O2)) (by rw[(hB O1 O2).block _ hfl];exact hfb) hBl hne (Zt.kept (ZF (hB O1 O2)) ⟨us,hrow,hseqs⟩) hA (Nat.le_refl _)
  simp only[zI,Jm] at hch
  have a1:=Uf
  have a2:=Vo
  clear hF hC hk hdep hrow hseqs e1 hfb hB hcl hfz still hBl
  go_enter Tryd.func56,Tryd.ntmps56
  go_wp2_with fail
  refine (hch _ _).mono ?_
  rintro e w1 ⟨rfl,hk1,hf1⟩
  have HK1:=(show Hid _ from hk1)
  have HF1:=(show Hid _ from hf1)
  clear hch hk1 hf1
  go_wp2_with fail
  go_end0
  exact⟨rfl,(Kp.of ((zc _ _).alloc (by simp) _)).trans (HK1.out.mono (by simp;omega)),HF1.out⟩
theorem zeX (E:Thk.z7→Bool) (s:List Thk.Term) (j:Nat) (hj:j<s.length):Thk.Q2 E (s.drop j)=Thk.JR E s[j]++(if Thk.Zu E s[j] then Thk.Q2 E (s.drop (j+1)) else []):=by
 rw[List.drop_eq_getElem_cons hj];simp only[Thk.Q2]
theorem zeV (E:Thk.z7→Bool) (c:List (List Thk.Term)) (j:Nat) (hj:j<c.length):Thk.ZC E (c.drop j)=Thk.Q2 E c[j]++Thk.ZC E (c.drop (j+1)):=by
 rw[List.drop_eq_getElem_cons hj];simp only[Thk.ZC]
structure Yt (W:World) (fb:Nat) (B:List Bool) (wr:World):Prop where
 kp:Kp fb W.heap.size W wr
 row:wr.heap[fb]? = some (zH B)
theorem zgy (k:Nat) (hC:∀ k',k'<k→U4 k'):U4 k:=by
 intro w mb eb fb names E B A c u hF hfb hBl hne hp hA hk
 obtain⟨us,⟨hrow,hAr⟩,hseqs⟩:=hp
 obtain⟨ua,uc,rfl⟩:=zl hrow
 have hcap:=KR hrow
 have hfl:=zd hfb
 have HVL:Hid (c.length=us.length):=zA.length hseqs
 obtain⟨W,hW⟩:∃ W,W=w.alloc (ZB mb eb names.length):=⟨_,rfl⟩
 have hB0:Below w.heap.size w W:=by rw[hW];exact zc _ _
 have hWsz:W.heap.size=w.heap.size+1:=by rw[hW];simp
 have hbox:W.heap[w.heap.size]? = some (ZB mb eb names.length):=by rw[hW];exact zk _ _
 have HF:Hid (zQ W mb eb names E):=hF.below hB0
 have HFB:Hid (W.heap[fb]? = some (zH B)):=by show _=_;rw[hB0.block _ hfl];exact hfb
 have HROW:Hid (W.ownsRow 0 133 1 (.slice ua c.length uc) c.length us):=Zv hrow hB0
 have HAR:Hid (∀ g,(Value.slice ua c.length uc).ownBlock=some g→A g):=hAr
 have HSQ:Hid (zA W A c us):=zA.kept (ZF hB0) c us hseqs
 have HB0:Hid (Below w.heap.size w W):=hB0
 have HBL:Hid (B.length=names.length):=hBl
 have HA:Hid (∀ g,A g→g≠fb):=hA
 have hSm:Hid (∀ wr,Kp fb W.heap.size W wr→Sm A W wr):=fun wr hk=>zas HFB.out hk hA
 simp only[zI,Jm]
 clear hF hfb hrow hseqs hB0 hBl hA hAr
 go_enter Tryd.func39,Tryd.ntmps39
 go_wp2_with fail
 rw[← hW]
 go_loopg [12] c.length (fun m i wr=>∃ (j:Nat) (B1:List Bool),m=c.length - j∧j≤c.length∧i = .int .i64 j∧Yt W fb B1 wr∧B1.length=names.length∧Hid (ZJ names B (Thk.ZC (Eb names E) c)=ZJ names B1 (Thk.ZC (Eb names E) (c.drop j))))
 case atStart=>exact⟨0,B,rfl,Nat.zero_le _,rfl,⟨Kp.refl _ _ _,HFB.out⟩,HBL.out,rfl⟩
 case round=>
  obtain⟨j,B1,rfl,hj,rfl,hR,hB1,hH⟩:=hrel
  have HR:Hid (Yt W fb B1 wr):=hR
  have HB1:Hid (B1.length=names.length):=hB1
  have hszr:=hR.kp.size
  clear hR hB1
  by_cases hlt:j<c.length
  ·have hjv:j<us.length:=by have:=HVL.out;omega
   obtain⟨g,rfl,hcs,hgl⟩:=Jk HROW.out (by omega)
   have hgf:g≠fb:=HA.out g (HAR.out g rfl)
   have c0 : wr.cell? ⟨g, j, none⟩ = some (us[j]'hjv) := by rw [JS HR.out.kp hgl hgf, hcs _ (by omega)]; exact List.getElem?_eq_getElem hjv
   have hsq:=zA.get HSQ.out j hlt hjv
   have hdj:=Nat.le_trans (KH c j hlt) hk
   have hed:=zeV (Eb names E) c j hlt
   obtain⟨vs,⟨hrow,hAr⟩,hts⟩:=hsq
   obtain⟨sa,sc,hvx⟩:=zl hrow
   rw[hvx] at c0 hrow hAr
   have hcaps:=KR hrow
   have hlt':(j:Int)<c.length:=by omega
   obtain⟨s,hs⟩:∃ s,s=c[j]:=⟨_,rfl⟩
   rw[← hs] at hrow hts hdj c0 hcaps hAr hed
   have HED:Hid (Thk.ZC (Eb names E) (c.drop j)=Thk.Q2 (Eb names E) s++Thk.ZC (Eb names E) (c.drop (j+1))):=hed
   have HVLs:Hid (s.length=vs.length):=zD.length hts
   have HROWs:Hid (W.ownsRow 0 100 3 (.slice sa s.length sc) s.length (QM s vs)):=hrow
   have HARs:Hid (∀ g,(Value.slice sa s.length sc).ownBlock=some g→A g):=hAr
   have HTS:Hid (zD W A s vs):=hts
   clear hed hvx hcs hs hrow hts hAr hgl hgf
   have NEXT:Hid (∀ wx,Yt W fb (ZJ names B1 (Thk.Q2 (Eb names E) s)) wx→∃ (j':Nat) (B2:List Bool),c.length - (j+1)=c.length - j'∧j'≤c.length∧Value.int IntKind.i64 ((j:Int)+1) = .int .i64 j'∧Yt W fb B2 wx∧B2.length=names.length∧Hid (ZJ names B (Thk.ZC (Eb names E) c)=ZJ names B2 (Thk.ZC (Eb names E) (c.drop j')))):=by
    intro wx hx
    refine⟨j+1,_,rfl,by omega,by go_num,hx,by rw[UO];exact HB1.out,?_⟩
    show _=_
    rw[hH.out,HED.out,zbO]
   go_wp2_with fail
   go_loopg [18] s.length (fun m i wx=>∃ (i1:Nat) (B2:List Bool),m=s.length - i1∧i1≤s.length∧i = .int .i64 i1∧Yt W fb B2 wx∧B2.length=names.length∧Hid (ZJ names B1 (Thk.Q2 (Eb names E) s)=ZJ names B2 (Thk.Q2 (Eb names E) (s.drop i1))))
   case atStart=>exact⟨0,B1,rfl,Nat.zero_le _,rfl,HR.out,HB1.out,rfl⟩
   case round=>
    obtain⟨i,B2,rfl,hi,rfl,hR2,hB2,hS⟩:=hrel
    have HR2:Hid (Yt W fb B2 wr):=hR2
    have HB2:Hid (B2.length=names.length):=hB2
    have hsz2:=hR2.kp.size
    have hbx0:wr.heap[w.heap.size]? = some (ZB mb eb names.length):=by rw[hR2.kp.block _ (by omega) (by omega)];exact hbox
    have hbx:=z8 hbx0
    have HBX:Hid (wr.heap[w.heap.size]? = some (ZB mb eb names.length)):=hbx0
    clear hR2 hB2 hbx0
    by_cases hlti:i<s.length
    ·have hiv:i<vs.length:=by have:=HVLs.out;omega
     obtain⟨g2,rfl,hcs2,hgl2⟩:=Jk HROWs.out (by omega)
     have hgf2:g2≠fb:=HA.out g2 (HARs.out g2 rfl)
     obtain⟨t0,t1,t2⟩:=V1 s vs HVLs.out i hlti
     have d0:wr.cell? ⟨g2,i * 3,none⟩=some (.int .u8 s[i].ahead.toNat):=by rw[JS HR2.out.kp hgl2 hgf2,hcs2 _ (by omega)];exact t0
     have d1 : wr.cell? ⟨g2, i * 3 + 1, none⟩ = some (vs[i]'hiv) := by rw [JS HR2.out.kp hgl2 hgf2, hcs2 _ (by omega)]; exact t1
     have d2:wr.cell? ⟨g2,i * 3+2,none⟩=some (.int .u8 s[i].behind.toNat):=by rw[JS HR2.out.kp hgl2 hgf2,hcs2 _ (by omega)];exact t2
     have htr:=zD.get HTS.out i hlti hiv
     have hdt:Jx s[i]≤k:=Nat.le_trans (KI s i hlti) hdj
     have hsd:=zeX (Eb names E) s i hlti
     have hlti':(i:Int)<s.length:=by omega
     obtain⟨t,ht⟩:∃ t,t=s[i]:=⟨_,rfl⟩
     obtain ⟨vv, hvv⟩ : ∃ vv, vv = vs[i]'hiv := ⟨_, rfl⟩
     rw[← ht] at d0 d2 htr hdt hsd
     rw[← hvv] at d1 htr
     have HSD:Hid (Thk.Q2 (Eb names E) (s.drop i)=Thk.JR (Eb names E) t++(if Thk.Zu (Eb names E) t then Thk.Q2 (Eb names E) (s.drop (i+1)) else [])):=hsd
     clear hsd ht hvv t0 t1 t2 hcs2 hgl2 hgf2
     have HTR:Hid (Zk W A t vv):=htr
     obtain⟨ta,tp,tb⟩:=t
     simp only[Zk] at htr
     simp only[Jx] at hdt
     obtain⟨vt,vx,rfl⟩:=zp.oneCell htr
     simp only[Thk.Term.ahead,Thk.Term.behind] at d0 d2
     have HTP:Hid (zp W A tp (.iface vt vx)):=htr
     clear htr
     have hmk:=fun O=>zgw k hC (wr.alloc O) mb eb fb names E B2 A tp (.iface vt vx) (HF.out.kpo (HR2.out.kp.alloc hsz2 O) HFB.out hne) (by rw[zm _ _ (zd HR2.out.row)];exact HR2.out.row) HB2.out hne (zp.kept (hSm.out _ (HR2.out.kp.alloc hsz2 O)) tp _ HTP.out) HA.out hdt
     simp only[zI,Jm] at hmk
     have hw9:w.heap.size<wr.heap.size:=by omega
     go_wp2_with fail
     refine (hmk _).mono ?_
     rintro e w1 ⟨rfl,hk1,hf1⟩
     have hs1:=hk1.size
     simp at hs1
     have hk3:Kp fb W.heap.size W w1:=(HR2.out.kp.alloc hsz2 _).trans (hk1.mono (by simp;omega))
     have hfr:fb<wr.heap.size:=zd HR2.out.row
     have hct:∀ o,w1.cell? ⟨wr.heap.size,o,none⟩=(#[.int .u8 ta.toNat,.iface vt vx,.int .u8 tb.toNat]:Array Value)[o]? := fun o=>by
      rw[JS hk1 (by simp) (by omega)];exact z8 (zk _ _) o
     have hbx1:∀ o,w1.cell? ⟨w.heap.size,o,none⟩=(#[.map (some mb),.slice (some ⟨eb,0,none⟩) names.length names.length]:Array Value)[o]? := fun o=>by
      rw[JS hk1 (by simp;omega) (by omega),World.cell?_alloc_lt _ _ _ (by simp only[];omega)];exact hbx o
     have hem:=zeG w1 mb eb names E A (.mk ta tp tb) (.iface vt vx) (HF.out.kpo hk3 HFB.out hne) (Zk.kept (hSm.out _ hk3) _ _ HTR.out)
     simp only[zI,QN,Thk.Term.ahead,Thk.Term.behind] at hem
     have HK3:Hid (Kp fb W.heap.size W w1):=hk3
     have HF1:Hid (w1.heap[fb]? = some (zH (ZJ names B2 (Thk.Zy (Eb names E) tp)))):=hf1
     have HFT:Hid (Thk.JR (Eb names E) (.mk ta tp tb)=Thk.Zy (Eb names E) tp):=by show _=_;simp only[Thk.JR]
     have hw91:w.heap.size<w1.heap.size:=by omega
     have hwr1:wr.heap.size<w1.heap.size:=by omega
     have hfb1:fb<w1.heap.size:=by omega
     clear hmk hk1 hf1 hk3 hbx d0 d1 d2
     cases hr:Thk.Zu (Eb names E) (.mk ta tp tb) with
     | true=>
      rw[hr] at hem
      have HRr:Hid (Thk.Zu (Eb names E) (.mk ta tp tb)=true):=hr
      clear hr
      go_wp2_with fail
      refine hem.mono ?_
      rintro e w2 ⟨rfl,hb2⟩
      have hs2:=hb2.size
      have hN:Yt W fb (ZJ names B2 (Thk.Zy (Eb names E) tp)) w2:=⟨HK3.out.trans (Kp.of (hb2.mono (by omega))),by rw[hb2.block _ hfb1];exact HF1.out⟩
      clear hem hb2
      go_wp2_with fail
      go_roundg (s.length - (i+1))
      case measure=>omega
      case rel=>
       refine⟨i+1,_,rfl,by omega,by go_num,hN,by rw[UO];exact HB2.out,?_⟩
       show _=_
       rw[hS.out,HSD.out,HFT.out,if_pos HRr.out,zbO]
     | false=>
      rw[hr] at hem
      have HRr:Hid (Thk.Zu (Eb names E) (.mk ta tp tb)=false):=hr
      clear hr
      go_wp2_with fail
      refine hem.mono ?_
      rintro e w2 ⟨rfl,hb2⟩
      have hs2:=hb2.size
      have hN:Yt W fb (ZJ names B1 (Thk.Q2 (Eb names E) s)) w2:=by
       refine⟨HK3.out.trans (Kp.of (hb2.mono (by omega))),?_⟩
       rw[hb2.block _ hfb1,HF1.out,hS.out,HSD.out,HFT.out,HRr.out]
       simp
      have hNN:=NEXT.out w2 hN
      clear hem hb2 hN
      go_wp2_with fail
      go_roundg (c.length - (j+1))
      case measure=>omega
      case rel=>exact hNN
    ·have hie:i=s.length:=by omega
     have hN:Yt W fb (ZJ names B1 (Thk.Q2 (Eb names E) s)) wr:=by
      refine⟨HR2.out.kp,?_⟩
      rw[HR2.out.row,hS.out,hie,List.drop_length]
      rfl
     have hNN:=NEXT.out wr hN
     clear hS hN
     go_wp2_with fail
     go_roundg (c.length - (j+1))
     case measure=>omega
     case rel=>exact hNN
  ·have hje:j=c.length:=by omega
   have hN:wr.heap[fb]? = some (zH (ZJ names B (Thk.ZC (Eb names E) c))):=by
    rw[HR.out.row,hH.out,hje,List.drop_length]
    rfl
   have HN:=(show Hid _ from hN)
   clear hH hN
   go_wp2_with fail
   go_end0
   exact⟨rfl,(Kp.of HB0.out).trans (HR.out.kp.mono (by omega)),HN.out⟩
theorem zgx (k:Nat):U4 k:=by
 induction k using Nat.strongRecOn with
 | ind k ih=>exact zgy k ih
abbrev Mat:=Nat→Nat→Bool
def Wm (M:Mat):Nat→Mat
 | 0=>M
 | m+1=>fun i j=>Wm M m i j || (Wm M m i m && Wm M m m j)
theorem zdI (M:Mat) (m t:Nat):Wm M (m+1) m t=Wm M m m t:=by
 simp only[Wm]
 cases Wm M m m m<;>cases Wm M m m t<;>rfl
def Jl (N:Nat) (f:Nat→Bool):List Bool:=(List.range N).map f
theorem zi2 (N:Nat) (f:Nat→Bool):(Jl N f).length=N:=by simp[Jl]
structure ZD (w:World) (xb N:Nat) (rbs:List Nat) (M:Mat):Prop where
 rows:w.heap[xb]? = some (.cells (rbs.map (Jm · N)).toArray 40 (0,0))
 len:rbs.length=N
 row:∀ i (h:i<rbs.length),w.heap[rbs[i]]? = some (zH (Jl N (M i)))
 nodup:rbs.Nodup
theorem ZD.congr {w:World} {xb N:Nat} {rbs:List Nat} {M M':Mat} (h:ZD w xb N rbs M) (he:∀ i j,i<N→j<N→M i j=M' i j):ZD w xb N rbs M':=by
 refine⟨h.rows,h.len,fun i hi=>?_,h.nodup⟩
 rw[h.row i hi]
 congr 2
 unfold Jl
 apply List.map_congr_left
 intro j hj
 exact he i j (by rw[← h.len];exact hi) (by simpa using hj)
structure KpM (rbs:List Nat) (B:Nat) (w w':World):Prop where
 os:w'.os=w.os
 tape:w'.tape=w.tape
 output:w'.output=w.output
 size:w.heap.size≤w'.heap.size
 block:∀ k,k<B→k ∉ rbs→w'.heap[k]? = w.heap[k]?
theorem KpM.refl (rbs:List Nat) (B:Nat) (w:World):KpM rbs B w w:=⟨rfl,rfl,rfl,Nat.le_refl _,fun _ _ _=>rfl⟩
theorem KpM.trans {rbs:List Nat} {B:Nat} {a b c:World} (h:KpM rbs B a b) (k:KpM rbs B b c):KpM rbs B a c:=
 ⟨k.os.trans h.os,k.tape.trans h.tape,k.output.trans h.output,Nat.le_trans h.size k.size,fun i hi hr=>(k.block i hi hr).trans (h.block i hi hr)⟩
theorem KpM.set {rbs:List Nat} {B:Nat} {a w:World} (h:KpM rbs B a w) {b o:Nat} (hb:b ∈ rbs) (u:Value):KpM rbs B a (w.setCell ⟨b,o,none⟩ u):=
 h.trans ⟨rfl,rfl,rfl,by simp[World.setCell],fun k _ hr=>Below.heap_setCell _ _ _ _ (fun e=>hr (e ▸ hb))⟩
theorem ZD.cell {w:World} {xb N:Nat} {rbs:List Nat} {M:Mat} (h:ZD w xb N rbs M) (i:Nat) (hi:i<rbs.length):w.cell? ⟨xb,i,none⟩=some (.slice (some ⟨rbs[i],0,none⟩) N N):=by
 rw[z8 h.rows];simp[hi,Jm]
theorem ZD.at {w:World} {xb N:Nat} {rbs:List Nat} {M:Mat} (h:ZD w xb N rbs M) (i j:Nat) (hi:i<rbs.length) (hj:j<N):w.cell? ⟨rbs[i],j,none⟩=some (.bool (M i j)):=by
 rw[z8 (h.row i hi)];simp[Jl,hj]
theorem zi3 (N:Nat) (f:Nat→Bool) (t:Nat):(Jl N f).set t true=Jl N (fun j=>if j=t then true else f j):=by
 apply List.ext_getElem
 ·simp[Jl]
 ·intro i h1 h2
  simp only[Jl,List.getElem_set,List.getElem_map,List.getElem_range]
  by_cases e:t=i
  ·subst e;simp
  ·have:¬ i=t:=fun h=>e h.symm
   simp[e,this]
theorem ZD.set {w:World} {xb N:Nat} {rbs:List Nat} {M:Mat} (h:ZD w xb N rbs M) (f t:Nat) (hf:f<rbs.length):ZD (w.setCell ⟨rbs[f],t,none⟩ (.bool true)) xb N rbs (fun i j=>if i=f∧j=t then true else M i j):=by
 refine⟨?_,h.len,fun i hi=>?_,h.nodup⟩
 ·rw[Below.heap_setCell]
  ·exact h.rows
  ·intro e
   have h1:=h.row f hf
   simp only[] at e
   rw[← e,h.rows] at h1
   simp[zH] at h1
 ·by_cases e:i=f
  ·subst e
   rw[zo (h.row i hi),qI,zi3]
   congr 3
   funext j
   by_cases e2:j=t<;>simp[e2]
  ·have hne:rbs[i]≠rbs[f]:=fun e2=>e ((List.getElem_inj h.nodup).1 e2)
   rw[Below.heap_setCell _ _ _ _ hne,h.row i hi]
   congr 3
   funext j
   simp[e]
theorem ZD.frozen {w:World} {xb N:Nat} {rbs:List Nat} {M:Mat} (h:ZD w xb N rbs M) (i:Nat) (hi:i<rbs.length) (o:Nat):w.frozen? ⟨rbs[i],o,none⟩=false:=zi (h.row i hi) o
theorem ziV (w:World) (xb N:Nat) (rbs:List Nat) (M:Mat) (hM:ZD w xb N rbs M) (hN:N≤20) :
  Calls Tryd.prog 40 #[.slice (some ⟨xb,0,none⟩) N N] w fun e w'=>e = .returned (.tuple #[])∧ZD w' xb N rbs (Wm M N)∧KpM rbs w.heap.size w w':=by
 have HL:Hid (rbs.length=N):=hM.len
 have HM0:Hid (ZD w xb N rbs M):=hM
 clear hM
 go_enter Tryd.func40,Tryd.ntmps40
 go_wp2_with fail
 go_loopg [7] N (fun n i wr=>∃ m:Nat,n=N - m∧m≤N∧i = .int .i64 m∧ZD wr xb N rbs (Wm M m)∧KpM rbs w.heap.size w wr)
 case atStart=>exact⟨0,rfl,Nat.zero_le _,rfl,HM0.out,KpM.refl _ _ _⟩
 case round=>
  obtain⟨m,rfl,hm,rfl,hA,hK⟩:=hrel
  have HA:Hid (ZD wr xb N rbs (Wm M m)):=hA
  have HK:Hid (KpM rbs w.heap.size w wr):=hK
  clear hA hK
  by_cases hltm:m<N
  ·have hltm':(m:Int)<N:=by omega
   go_wp2_with fail
   go_loopg [12] N (fun n i wx=>∃ f:Nat,n=N - f∧f≤N∧i = .int .i64 f∧ZD wx xb N rbs (fun i j=>if i<f then Wm M (m+1) i j else Wm M m i j)∧KpM rbs w.heap.size w wx)
   case atStart=>exact⟨0,rfl,Nat.zero_le _,rfl,HA.out.congr (fun i j _ _=>by simp),HK.out⟩
   case round=>
    obtain⟨f,rfl,hf,rfl,hA2,hK2⟩:=hrel
    have HA2:Hid (ZD wr xb N rbs (fun i j=>if i<f then Wm M (m+1) i j else Wm M m i j)):=hA2
    have HK2:Hid (KpM rbs w.heap.size w wr):=hK2
    clear hA2 hK2
    by_cases hltf:f<N
    ·have hltf':(f:Int)<N:=by omega
     have hfr:f<rbs.length:=by rw[HL.out];exact hltf
     have c1:=HA2.out.cell f hfr
     have c2:=HA2.out.at f m hfr hltm
     simp only[Nat.lt_irrefl,if_false] at c2
     cases hv:Wm M m f m with
     | false=>
      rw[hv] at c2
      have hN1:ZD wr xb N rbs (fun i j=>if i<f+1 then Wm M (m+1) i j else Wm M m i j):=by
       refine HA2.out.congr (fun i j _ _=>?_)
       by_cases h1:i<f
       ·simp[h1,Nat.lt_succ_of_lt h1]
       ·by_cases h2:i=f
        ·subst h2;simp[Wm,hv]
        ·have h3:¬ i<f+1:=by omega
         simp[h1,h3]
      clear hv
      go_wp2_with fail
      go_roundg (N - (f+1))
      case measure=>omega
      case rel=>exact⟨f+1,rfl,by omega,by go_num,hN1,HK2.out⟩
     | true=>
      rw[hv] at c2
      have HV:Hid (Wm M m f m=true):=hv
      clear hv
      go_wp2_with fail
      go_loopg [25] N (fun n i wy=>∃ t:Nat,n=N - t∧t≤N∧i = .int .i64 t∧ZD wy xb N rbs (fun i j=>if i<f then Wm M (m+1) i j else if i=f∧j<t then Wm M (m+1) i j else Wm M m i j)∧KpM rbs w.heap.size w wy)
      case atStart=>exact⟨0,rfl,Nat.zero_le _,rfl,HA2.out.congr (fun i j _ _=>by simp),HK2.out⟩
      case round=>
       obtain⟨t,rfl,ht,rfl,hA3,hK3⟩:=hrel
       have HA3:Hid (ZD wr xb N rbs (fun i j=>if i<f then Wm M (m+1) i j else if i=f∧j<t then Wm M (m+1) i j else Wm M m i j)):=hA3
       have HK3:Hid (KpM rbs w.heap.size w wr):=hK3
       clear hA3 hK3
       by_cases hltt:t<N
       ·have hltt':(t:Int)<N:=by omega
        have hmr:m<rbs.length:=by rw[HL.out];exact hltm
        have d1:=HA3.out.cell f hfr
        have d2:=HA3.out.cell m hmr
        have d3:=HA3.out.at m t hmr hltt
        have d4:=HA3.out.at f t hfr hltt
        have d5:=HA3.out.frozen f hfr t
        have hval:(if m<f then Wm M (m+1) m t else if m=f∧t<t then Wm M (m+1) m t else Wm M m m t)=Wm M m m t:=by
         rw[zdI];simp
        rw[hval] at d3
        obtain⟨old,hold⟩:∃ old,wr.cell? ⟨rbs[f],t,none⟩=some (.bool old):=⟨_,d4⟩
        obtain⟨bf,hbf⟩:∃ b,b=rbs[f]:=⟨_,rfl⟩
        obtain⟨bm,hbm⟩:∃ b,b=rbs[m]:=⟨_,rfl⟩
        have hmem:bf ∈ rbs:=by rw[hbf];exact List.getElem_mem hfr
        have hset:=HA3.out.set f t hfr
        rw[← hbf] at d1 d5 hold hset
        rw[← hbm] at d2 d3
        clear d4 hval hbf hbm c1 c2
        cases hv2:Wm M m m t with
        | false=>
         rw[hv2] at d3
         have hN3:ZD wr xb N rbs (fun i j=>if i<f then Wm M (m+1) i j else if i=f∧j<t+1 then Wm M (m+1) i j else Wm M m i j):=by
          refine HA3.out.congr (fun i j _ _=>?_)
          by_cases h1:i<f
          ·simp[h1]
          ·by_cases h2:i=f
           ·subst h2
            by_cases h3:j<t
            ·simp[h3,Nat.lt_succ_of_lt h3]
            ·by_cases h4:j=t
             ·subst h4;simp[Wm,hv2]
             ·have h5:¬ j<t+1:=by omega
              simp[h3,h5]
           ·simp[h1,h2]
         clear hv2 hset hold
         go_wp2_with fail
         go_roundg (N - (t+1))
         case measure=>omega
         case rel=>exact⟨t+1,rfl,by omega,by go_num,hN3,HK3.out⟩
        | true=>
         rw[hv2] at d3
         have hN3:ZD (wr.setCell ⟨bf,t,none⟩ (.bool true)) xb N rbs (fun i j=>if i<f then Wm M (m+1) i j else if i=f∧j<t+1 then Wm M (m+1) i j else Wm M m i j):=by
          refine hset.congr (fun i j _ _=>?_)
          by_cases h1:i<f
          ·have h2:¬ i=f:=by omega
           simp[h1,h2]
          ·by_cases h2:i=f
           ·subst h2
            by_cases h4:j=t
            ·subst h4;simp[Wm,hv2,HV.out]
            ·by_cases h3:j<t
             ·simp[h3,h4,Nat.lt_succ_of_lt h3]
             ·have h5:¬ j<t+1:=by omega
              simp[h3,h4,h5]
           ·simp[h1,h2]
         have HK4:Hid (KpM rbs w.heap.size w (wr.setCell ⟨bf,t,none⟩ (.bool true))):=HK3.out.set hmem _
         clear hv2 hset
         go_wp2_with fail
         go_roundg (N - (t+1))
         case measure=>omega
         case rel=>exact⟨t+1,rfl,by omega,by go_num,hN3,HK4.out⟩
       ·have hte:t=N:=by omega
        have hN1:ZD wr xb N rbs (fun i j=>if i<f+1 then Wm M (m+1) i j else Wm M m i j):=by
         refine HA3.out.congr (fun i j _ hj=>?_)
         by_cases h1:i<f
         ·simp[h1,Nat.lt_succ_of_lt h1]
         ·by_cases h2:i=f
          ·subst h2;have:j<t:=by omega
           simp[this]
          ·have h3:¬ i<f+1:=by omega
           simp[h1,h2,h3]
        clear hte
        go_wp2_with fail
        go_roundg (N - (f+1))
        case measure=>omega
        case rel=>exact⟨f+1,rfl,by omega,by go_num,hN1,HK3.out⟩
    ·have hfe:f=N:=by omega
     have hN1:ZD wr xb N rbs (Wm M (m+1)):=by
      refine HA2.out.congr (fun i j hi _=>?_)
      have:i<f:=by omega
      simp[this]
     clear hfe
     go_wp2_with fail
     go_roundg (N - (m+1))
     case measure=>omega
     case rel=>exact⟨m+1,rfl,by omega,by go_num,hN1,HK2.out⟩
  ·have hme:m=N:=by omega
   have HE:Hid (ZD wr xb N rbs (Wm M N)):=by have h:=HA.out;rw[hme] at h;exact h
   clear hme
   go_wp2_with fail
   go_end0
   exact⟨rfl,HE.out,HK.out⟩
end Go.Proofs.YtiganlkabilblaaDoor
