import Derived.Test.YtiganlkabilblaaDoorV04
set_option linter.all false
set_option maxHeartbeats 64000000
set_option maxRecDepth 100000
namespace Go.Proofs.YtiganlkabilblaaDoor
open Go.RowKit Go.WideMaps Go.Maps
structure Yq (w:World) (bx mb eb:Nat) (names:List Thk.z7) (E:List Bool):Prop where
 box:w.heap[bx]? = some (ZB mb eb names.length)
 facts:zQ w mb eb names E
theorem Yq.below {w w':World} {bx mb eb:Nat} {names:List Thk.z7} {E:List Bool} (h:Yq w bx mb eb names E) (hb:Below w.heap.size w w'):Yq w' bx mb eb names E:=
 ⟨by rw[hb.block _ (zd h.box)];exact h.box,h.facts.below hb⟩
def zv (names:List Thk.z7) (t:Thk.Term):Bool:=match t.piece with
 | .name b=>!names.contains b
 | _=>false
def zJ (Em:Thk.z7→Bool) (t:Thk.Term):Bool:=(t.behind == 42 || t.behind == 43) && Thk.Ze Em t.piece
theorem zju (w:World) (bx mb eb:Nat) (names:List Thk.z7) (E:List Bool) (A:Nat→Prop) (t:Thk.Term) (v:Value) (hF:Yq w bx mb eb names E) (hp:Zk w A t v) :
  Calls Tryd.prog 34 #[QN t v,.pointer (some ⟨bx,0,none⟩)] w fun e w'=>e = .returned (.bool (zv names t))∧Below w.heap.size w w':=by
 obtain⟨a,p,b⟩:=t
 simp only[Zk] at hp
 have hbx:=z8 hF.box
 have hbl:=zd hF.box
 have hB:∀ O1 O2,Below w.heap.size w ((w.alloc O1).alloc O2):=fun O1 O2=>(zc _ _).alloc (by simp) _
 simp only[QN,Thk.Term.ahead,Thk.Term.behind]
 cases p with
 | name nm=>
  simp only[zp] at hp
  obtain⟨rfl,hnl⟩:=hp
  have e1:zv names (.mk a (.name nm) b) = !names.contains nm:=rfl
  rw[e1]
  have hlk:=fun O1 O2=>(hF.facts.map.below (hB O1 O2)).lookOk nm hnl
  have a1:=Ui
  generalize names.contains nm=r at *
  generalize Up names nm=ix at *
  clear hF hB e1
  go_enter Tryd.func34,Tryd.ntmps34
  go_wp2_with fail
  go_ret
  exact⟨rfl,(zc _ _).alloc (by simp) _⟩
 | lit nm=>
  simp only[zp] at hp
  subst hp
  have a1:=Uh
  clear hF hB
  go_enter Tryd.func34,Tryd.ntmps34
  go_wp2_with fail
  go_ret
  exact⟨rfl,(zc _ _).alloc (by simp) _⟩
 | cls nm=>
  simp only[zp] at hp
  obtain⟨u,rfl,_⟩:=hp
  have a1:=Ue
  clear hF hB
  go_enter Tryd.func34,Tryd.ntmps34
  go_wp2_with fail
  go_ret
  exact⟨rfl,(zc _ _).alloc (by simp) _⟩
 | any=>
  simp only[zp] at hp
  subst hp
  have a1:=Uc
  clear hF hB
  go_enter Tryd.func34,Tryd.ntmps34
  go_wp2_with fail
  go_ret
  exact⟨rfl,(zc _ _).alloc (by simp) _⟩
 | group c=>
  simp only[zp] at hp
  obtain⟨u,us,rfl,hrow,_⟩:=hp
  have a1:=Uf
  clear hF hB hrow
  go_enter Tryd.func34,Tryd.ntmps34
  go_wp2_with fail
  go_ret
  exact⟨rfl,(zc _ _).alloc (by simp) _⟩
theorem zhR (w:World) (a b:UInt8) (t:TypeId) (x:Value) :
  Calls Tryd.prog 37 #[.agg #[.int .u8 a.toNat,.iface t x,.int .u8 b.toNat]] w fun e w'=>e = .returned (.bool (b == 42 || b == 43))∧Below w.heap.size w w':=by
 by_cases h1:b=42
 ·subst h1
  go_enter Tryd.func37,Tryd.ntmps37
  go_wp2_with fail
  go_ret
  exact⟨rfl,zc _ _⟩
 ·have t1:=Q3 h1 42 rfl
  by_cases h2:b=43
  ·subst h2
   go_enter Tryd.func37,Tryd.ntmps37
   go_wp2_with fail
   go_ret
   exact⟨rfl,zc _ _⟩
  ·have t2:=Q3 h2 43 rfl
   rw[show (b == 42 || b == 43)=false from by simp[h1,h2]]
   clear h1 h2
   go_enter Tryd.func37,Tryd.ntmps37
   go_wp2_with fail
   go_ret
   exact⟨rfl,zc _ _⟩
theorem zfZ (w:World) (bx mb eb:Nat) (names:List Thk.z7) (E:List Bool) (A:Nat→Prop) (t:Thk.Term) (v:Value) (hF:Yq w bx mb eb names E) (hp:Zk w A t v) :
    Calls Tryd.prog 36 #[QN t v,.pointer (some ⟨bx,0,none⟩)] w fun e w'=>e = .returned (.bool (zJ (Eb names E) t))∧Below w.heap.size w w':=by
  obtain⟨a,p,b⟩:=t
  simp only[Zk] at hp
  obtain⟨vt,vx,rfl⟩:=zp.oneCell hp
  have hbl:=zd hF.box
  have e1:zJ (Eb names E) (.mk a p b)=((b == 42 || b == 43) && Thk.Ze (Eb names E) p):=rfl
  rw[e1]
  simp only[QN,Thk.Term.ahead,Thk.Term.behind]
  obtain⟨W,hW⟩:∃ W,W=w.alloc (.cells #[.int .u8 a.toNat,.iface vt vx,.int .u8 b.toNat] 100):=⟨_,rfl⟩
  have hB0:Below w.heap.size w W:=by rw[hW];exact zc _ _
  have hWsz:W.heap.size=w.heap.size+1:=by rw[hW];simp
  have hrp:=zhR W a b vt vx
  have hkeep : ∀ w1, Below W.heap.size W w1 → (∀ o, w1.cell? ⟨bx, o, none⟩ = (#[.map (some mb), .slice (some ⟨eb, 0, none⟩) names.length names.length] : Array Value)[o]?) ∧ (∀ o, w1.cell? ⟨w.heap.size, o, none⟩ = (#[.int .u8 a.toNat, .iface vt vx, .int .u8 b.toNat] : Array Value)[o]?) ∧
      Calls Tryd.prog 38 #[zI mb eb names.length,.iface vt vx] w1 fun e w'=>e = .returned (.bool (Thk.Ze (Eb names E) p))∧Below w1.heap.size w1 w':=by
    intro w1 hb1
    have hb2:Below w.heap.size w w1:=hB0.trans (hb1.mono (by omega))
    refine⟨fun o=>?_,fun o=>?_,zeC w1 mb eb names E A p _ (hF.facts.below hb2) (zp.kept (ZF hb2) p _ hp)⟩
    · rw[hb2.cell (p:=⟨bx,o,none⟩) hbl];exact z8 hF.box o
    · rw[hb1.cell (p:=⟨w.heap.size,o,none⟩) (by simp only[];omega),hW];exact z8 (zk _ _) o
  have HB0:Hid (Below w.heap.size w W):=hB0
  clear hF hp e1 hB0
  generalize Thk.Ze (Eb names E) p=r at *
  have HKE:=(show Hid _ from hkeep)
  clear hkeep
  go_enter Tryd.func36,Tryd.ntmps36
  go_wp2_with fail
  rw[← hW]
  cases hrr:(b == 42 || b == 43) with
  | false=>
    rw[hrr] at hrp
    refine hrp.mono ?_
    rintro e w1 ⟨rfl,hb1⟩
    have hb2:Below w.heap.size w w1:=HB0.out.trans (hb1.mono (by omega))
    have HRR:Hid ((b == 42 || b == 43)=false):=hrr
    clear hrp hb1 HKE hrr
    go_wp2_with fail
    go_ret
    exact⟨by rw[HRR.out];simp,hb2⟩
  | true=>
    rw[hrr] at hrp
    refine hrp.mono ?_
    rintro e w1 ⟨rfl,hb1⟩
    obtain⟨q1,q2,hep⟩:=HKE.out w1 hb1
    have hs1:=hb1.size
    have hb2:Below w.heap.size w w1:=HB0.out.trans (hb1.mono (by omega))
    simp only[zI] at hep
    have HRR:Hid ((b == 42 || b == 43)=true):=hrr
    clear hrp hb1 HKE hrr
    go_wp2_with fail
    refine hep.mono ?_
    rintro e w3 ⟨rfl,hb3⟩
    have hb4:Below w.heap.size w w3:=hb2.trans (hb3.mono (by omega))
    clear hep hb3 hb2
    go_wp2_with fail
    go_ret
    exact⟨by rw[HRR.out];simp,hb4⟩
theorem zcP (H:Thk.Term→Bool) (s:List Thk.Term) (j:Nat) (hj:j<s.length):Thk.Zc H (s.drop j)=(Thk.ZG H s[j] || Thk.Zc H (s.drop (j+1))):=by
 rw[List.drop_eq_getElem_cons hj];simp only[Thk.Zc]
theorem zcO (H:Thk.Term→Bool) (c:List (List Thk.Term)) (j:Nat) (hj:j<c.length):Thk.zx H (c.drop j)=(Thk.Zc H c[j] || Thk.zx H (c.drop (j+1))):=by
 rw[List.drop_eq_getElem_cons hj];simp only[Thk.zx]
theorem KR {w:World} {base:Nat} {e:TypeId} {sz:Nat} {v:Value} {n:Nat} {xs:List Value} (h:w.ownsRow base e sz v n xs):n≤9223372036854775807:=by
 rcases h.2 with ⟨_,h2⟩ | ⟨g,cap,cur,hv,_,_,h1,h2,_⟩
 ·omega
 ·unfold maxLen at h2;omega
def qE (k:Nat):Prop:=∀ (w:World) (bx mb eb:Nat) (names:List Thk.z7) (E:List Bool) (A:Nat→Prop) (c:Thk.Z5) (u:Value),Yq w bx mb eb names E→Zt w A c u→Qt c≤k →
 Calls Tryd.prog 33 #[u,.func (.func 34) #[] #[.pointer (some ⟨bx,0,none⟩)]] w fun e w'=>e = .returned (.bool (Thk.zx (zv names) c))∧Below w.heap.size w w'
theorem ziT (k:Nat) (hC:∀ k',k'<k→qE k'):qE k:=by
 intro w bx mb eb names E A c u hF hp hk
 obtain⟨us,⟨hrow,hA⟩,hseqs⟩:=hp
 obtain⟨ua,uc,rfl⟩:=zl hrow
 have hcap:=KR hrow
 have HVL:Hid (c.length=us.length):=zA.length hseqs
 have HF:Hid (Yq w bx mb eb names E):=hF
 have HROW:Hid (w.ownsRow 0 133 1 (.slice ua c.length uc) c.length us):=hrow
 have HSQ:Hid (zA w A c us):=hseqs
 obtain⟨R,hR⟩:∃ R,R=Thk.zx (zv names) c:=⟨_,rfl⟩
 rw[← hR]
 have HR:Hid (R=Thk.zx (zv names) (c.drop 0)):=by rw[hR];rfl
 clear hR hF hrow hseqs
 go_enter Tryd.func33,Tryd.ntmps33
 go_wp2_with fail
 go_loopg [13] c.length (fun m i wr=>∃ j:Nat,m=c.length - j∧j≤c.length∧i = .int .i64 j∧Below w.heap.size w wr∧Hid (R=Thk.zx (zv names) (c.drop j)))
 case atStart=>exact⟨0,rfl,Nat.zero_le _,rfl,Below.refl _ _,HR⟩
 case round=>
  obtain⟨j,rfl,hj,rfl,hb,hH⟩:=hrel
  have HB:Hid (Below w.heap.size w wr):=hb
  have hsz:=hb.size
  clear hb
  by_cases hlt:j<c.length
  ·have hjv:j<us.length:=by have:=HVL.out;omega
   obtain⟨g,rfl,hcs,hgl⟩:=Jk HROW.out (by omega)
   have c0 : wr.cell? ⟨g, j, none⟩ = some (us[j]'hjv) := by rw [HB.out.cell (p := ⟨g, _, none⟩) hgl, hcs _ (by omega)]; exact List.getElem?_eq_getElem hjv
   have hsq:=zA.get HSQ.out j hlt hjv
   have hdj:=Nat.le_trans (KH c j hlt) hk
   have hed:=zcO (zv names) c j hlt
   obtain⟨vs,⟨hrow,hAr⟩,hts⟩:=hsq
   obtain⟨sa,sc,hvx⟩:=zl hrow
   rw[hvx] at c0 hrow
   have hcaps:=KR hrow
   have HED:Hid (Thk.zx (zv names) (c.drop j)=(Thk.Zc (zv names) c[j] || Thk.zx (zv names) (c.drop (j+1)))):=hed
   have hlt':(j:Int)<c.length:=by omega
   obtain⟨s,hs⟩:∃ s,s=c[j]:=⟨_,rfl⟩
   rw[← hs] at hrow hts hdj c0 hcaps
   have HED:Hid (Thk.zx (zv names) (c.drop j)=(Thk.Zc (zv names) s || Thk.zx (zv names) (c.drop (j+1)))):=by rw[hs];exact hed
   have HVLs:Hid (s.length=vs.length):=zD.length hts
   have HROWs:Hid (w.ownsRow 0 100 3 (.slice sa s.length sc) s.length (QM s vs)):=hrow
   have HTS:Hid (zD w A s vs):=hts
   clear hed hvx hcs hs hrow hts hAr hgl
   go_wp2_with fail
   go_loopg [19] s.length (fun m i wx=>∃ i1:Nat,m=s.length - i1∧i1≤s.length∧i = .int .i64 i1∧Below w.heap.size w wx∧Hid (Thk.Zc (zv names) s=Thk.Zc (zv names) (s.drop i1)))
   case atStart=>exact⟨0,rfl,Nat.zero_le _,rfl,HB.out,rfl⟩
   case round=>
    obtain⟨i,rfl,hi,rfl,hb2,hS⟩:=hrel
    have HB2:Hid (Below w.heap.size w wr):=hb2
    have hsz2:=hb2.size
    clear hb2
    by_cases hlti:i<s.length
    ·have hiv:i<vs.length:=by have:=HVLs.out;omega
     obtain⟨g2,rfl,hcs2,hgl2⟩:=Jk HROWs.out (by omega)
     obtain⟨t0,t1,t2⟩:=V1 s vs HVLs.out i hlti
     have d0:wr.cell? ⟨g2,i * 3,none⟩=some (.int .u8 s[i].ahead.toNat):=by rw[HB2.out.cell (p:=⟨g2,_,none⟩) hgl2,hcs2 _ (by omega)];exact t0
     have d1 : wr.cell? ⟨g2, i * 3 + 1, none⟩ = some (vs[i]'hiv) := by rw [HB2.out.cell (p := ⟨g2, _, none⟩) hgl2, hcs2 _ (by omega)]; exact t1
     have d2:wr.cell? ⟨g2,i * 3+2,none⟩=some (.int .u8 s[i].behind.toNat):=by rw[HB2.out.cell (p:=⟨g2,_,none⟩) hgl2,hcs2 _ (by omega)];exact t2
     have htr:=zD.get HTS.out i hlti hiv
     have hcl := fun O => zju (wr.alloc O) bx mb eb names E A s[i] (vs[i]'hiv) (HF.out.below (HB2.out.alloc hsz2 O)) (Zk.kept (ZF (HB2.out.alloc hsz2 O)) _ _ htr)
     have hdt:Jx s[i]≤k:=Nat.le_trans (KI s i hlti) hdj
     have hsd:=zcP (zv names) s i hlti
     have hlti':(i:Int)<s.length:=by omega
     obtain⟨t,ht⟩:∃ t,t=s[i]:=⟨_,rfl⟩
     obtain ⟨vv, hvv⟩ : ∃ vv, vv = vs[i]'hiv := ⟨_, rfl⟩
     rw[← ht] at d0 d2 htr hdt hsd
     rw[← hvv] at d1 htr
     simp only[← ht,← hvv] at hcl
     have HSD:Hid (Thk.Zc (zv names) (s.drop i)=(Thk.ZG (zv names) t || Thk.Zc (zv names) (s.drop (i+1)))):=hsd
     clear hsd ht hvv t0 t1 t2 hcs2 hgl2
     obtain⟨ta,tp,tb⟩:=t
     simp only[Zk] at htr
     simp only[Jx] at hdt
     obtain⟨vt,vx,rfl⟩:=zp.oneCell htr
     simp only[QN,Thk.Term.ahead,Thk.Term.behind] at hcl d0 d2
     have HTP:Hid (zp w A tp (.iface vt vx)):=htr
     have HST:Hid (Thk.ZG (zv names) (.mk ta tp tb)=((zv names) (.mk ta tp tb) || Thk.Zi (zv names) tp)):=by show _=_;simp only[Thk.ZG]
     clear htr
     obtain⟨r,hr⟩:∃ r,r=(zv names) (.mk ta tp tb):=⟨_,rfl⟩
     simp only[← hr] at hcl
     have HRr:Hid (r=(zv names) (.mk ta tp tb)):=hr
     clear hr
     cases r with
     | true=>
      go_wp2_with fail
      refine (hcl _).mono ?_
      rintro e w1 ⟨rfl,hb1⟩
      have hs1:=hb1.size
      simp at hs1
      have hb3:Below w.heap.size w w1:=(HB2.out.alloc hsz2 _).trans (hb1.mono (by simp;omega))
      clear hcl hb1
      go_wp2_with fail
      go_ret
      exact⟨by rw[hH.out,HED.out,hS.out,HSD.out,HST.out,← HRr.out];simp,hb3⟩
     | false=>
      go_wp2_with fail
      refine (hcl _).mono ?_
      rintro e w1 ⟨rfl,hb1⟩
      have hs1:=hb1.size
      simp at hs1
      have hb3:Below w.heap.size w w1:=(HB2.out.alloc hsz2 _).trans (hb1.mono (by simp;omega))
      have hct:∀ o,w1.cell? ⟨wr.heap.size,o,none⟩=(#[.int .u8 ta.toNat,.iface vt vx,.int .u8 tb.toNat]:Array Value)[o]? := fun o=>by
       rw[hb1.cell (p:=⟨wr.heap.size,o,none⟩) (by simp)];exact z8 (zk _ _) o
      have HB3:Hid (Below w.heap.size w w1):=hb3
      have hs3:w.heap.size≤w1.heap.size:=hb3.size
      have hwr1:wr.heap.size<w1.heap.size:=by omega
      clear hcl hb1 hb3
      have fin:∀ w5,Below w.heap.size w w5→Thk.Zi (zv names) tp=false→∃ i1:Nat,s.length - (i+1)=s.length - i1∧i1≤s.length∧Value.int IntKind.i64 ((i:Int)+1) = .int .i64 i1∧Below w.heap.size w w5∧Hid (Thk.Zc (zv names) s=Thk.Zc (zv names) (s.drop i1)):=by
       intro w5 h5 hsp
       refine⟨i+1,rfl,by omega,by go_num,h5,?_⟩
       show _=_
       rw[hS.out,HSD.out,HST.out,← HRr.out,hsp];simp
      have FIN:=(show Hid _ from fin)
      clear fin
      cases tp with
      | group c2=>
       have htp:=HTP.out
       simp only[zp] at htp
       obtain⟨u2,us2,hux,hrow2,hseqs2⟩:=htp
       obtain⟨u2a,u2c,rfl⟩:=zl hrow2.1
       simp only[Value.iface.injEq] at hux
       obtain⟨rfl,rfl⟩:=hux
       have hdep:Qt c2<k:=by simp only[Y6] at hdt;omega
       have hrec:=fun O=>hC _ hdep (w1.alloc O) bx mb eb names E A c2 (.slice u2a c2.length u2c) (HF.out.below (HB3.out.alloc hs3 O)) (Zt.kept (ZF (HB3.out.alloc hs3 O)) ⟨us2,hrow2,hseqs2⟩) (Nat.le_refl _)
       have a1:=Vo
       obtain⟨r2,hr2⟩:∃ r2,r2=Thk.zx (zv names) c2:=⟨_,rfl⟩
       simp only[← hr2] at hrec
       have HR2:Hid (r2=Thk.Zi (zv names) (.group c2)):=by show _=_;simp only[Thk.Zi];exact hr2
       clear hr2 hrow2 hseqs2 hdep
       cases r2 with
       | true=>
        go_wp2_with fail
        refine (hrec _).mono ?_
        rintro e w5 ⟨rfl,hb5⟩
        have hb6:Below w.heap.size w w5:=(HB3.out.alloc hs3 _).trans (hb5.mono (by simp;omega))
        clear hrec hb5
        go_wp2_with fail
        go_ret
        exact⟨by rw[hH.out,HED.out,hS.out,HSD.out,HST.out,← HR2.out];simp,hb6⟩
       | false=>
        go_wp2_with fail
        refine (hrec _).mono ?_
        rintro e w5 ⟨rfl,hb5⟩
        have hb6:Below w.heap.size w w5:=(HB3.out.alloc hs3 _).trans (hb5.mono (by simp;omega))
        have hN:=FIN.out w5 hb6 HR2.out.symm
        clear hrec hb5
        go_wp2_with fail
        go_roundg (s.length - (i+1))
        case measure=>omega
        case rel=>exact hN
      | name b=>
       have htp:=HTP.out
       simp only[zp] at htp
       simp only[Value.iface.injEq] at htp
       obtain⟨⟨rfl,rfl⟩,_⟩:=htp
       have a1:=zaZ
       have hN:=FIN.out
       go_wp2_with fail
       go_roundg (s.length - (i+1))
       case measure=>omega
       case rel=>exact FIN.out _ (HB3.out.alloc hs3 _) rfl
      | lit b=>
       have htp:=HTP.out
       simp only[zp] at htp
       simp only[Value.iface.injEq] at htp
       obtain⟨rfl,rfl⟩:=htp
       have a1:=Ug
       go_wp2_with fail
       go_roundg (s.length - (i+1))
       case measure=>omega
       case rel=>exact FIN.out _ (HB3.out.alloc hs3 _) rfl
      | cls b=>
       have htp:=HTP.out
       simp only[zp] at htp
       obtain⟨u3,hux,_⟩:=htp
       simp only[Value.iface.injEq] at hux
       obtain⟨rfl,rfl⟩:=hux
       have a1:=Ud
       go_wp2_with fail
       go_roundg (s.length - (i+1))
       case measure=>omega
       case rel=>exact FIN.out _ (HB3.out.alloc hs3 _) rfl
      | any=>
       have htp:=HTP.out
       simp only[zp] at htp
       simp only[Value.iface.injEq] at htp
       obtain⟨rfl,rfl⟩:=htp
       have a1:=Vn
       go_wp2_with fail
       go_roundg (s.length - (i+1))
       case measure=>omega
       case rel=>exact FIN.out _ (HB3.out.alloc hs3 _) rfl
    ·have hie:i=s.length:=by omega
     have HN:Hid (R=Thk.zx (zv names) (c.drop (j+1))):=by
      show _=_
      rw[hH.out,HED.out,hS.out,hie,List.drop_length];simp only[Thk.Zc,Bool.false_or]
     clear hS
     go_wp2_with fail
     go_roundg (c.length - (j+1))
     case measure=>omega
     case rel=>exact⟨j+1,rfl,by omega,by go_num,HB2.out,HN⟩
  ·have hje:j=c.length:=by omega
   have hRt:Hid (R=false):=by
    have h1:=hH.out
    rw[hje,List.drop_length] at h1
    exact h1
   clear hH
   go_wp2_with fail
   go_ret
   exact⟨by rw[hRt.out];rfl,HB.out⟩
theorem ziR (k:Nat):qE k:=by
 induction k using Nat.strongRecOn with
 | ind k ih=>exact ziT k ih
def qD (k:Nat):Prop:=∀ (w:World) (bx mb eb:Nat) (names:List Thk.z7) (E:List Bool) (A:Nat→Prop) (c:Thk.Z5) (u:Value),Yq w bx mb eb names E→Zt w A c u→Qt c≤k →
 Calls Tryd.prog 33 #[u,.func (.func 36) #[] #[.pointer (some ⟨bx,0,none⟩)]] w fun e w'=>e = .returned (.bool (Thk.zx (zJ (Eb names E)) c))∧Below w.heap.size w w'
theorem ziS (k:Nat) (hC:∀ k',k'<k→qD k'):qD k:=by
 intro w bx mb eb names E A c u hF hp hk
 obtain⟨us,⟨hrow,hA⟩,hseqs⟩:=hp
 obtain⟨ua,uc,rfl⟩:=zl hrow
 have hcap:=KR hrow
 have HVL:Hid (c.length=us.length):=zA.length hseqs
 have HF:Hid (Yq w bx mb eb names E):=hF
 have HROW:Hid (w.ownsRow 0 133 1 (.slice ua c.length uc) c.length us):=hrow
 have HSQ:Hid (zA w A c us):=hseqs
 obtain⟨R,hR⟩:∃ R,R=Thk.zx (zJ (Eb names E)) c:=⟨_,rfl⟩
 rw[← hR]
 have HR:Hid (R=Thk.zx (zJ (Eb names E)) (c.drop 0)):=by rw[hR];rfl
 clear hR hF hrow hseqs
 go_enter Tryd.func33,Tryd.ntmps33
 go_wp2_with fail
 go_loopg [13] c.length (fun m i wr=>∃ j:Nat,m=c.length - j∧j≤c.length∧i = .int .i64 j∧Below w.heap.size w wr∧Hid (R=Thk.zx (zJ (Eb names E)) (c.drop j)))
 case atStart=>exact⟨0,rfl,Nat.zero_le _,rfl,Below.refl _ _,HR⟩
 case round=>
  obtain⟨j,rfl,hj,rfl,hb,hH⟩:=hrel
  have HB:Hid (Below w.heap.size w wr):=hb
  have hsz:=hb.size
  clear hb
  by_cases hlt:j<c.length
  ·have hjv:j<us.length:=by have:=HVL.out;omega
   obtain⟨g,rfl,hcs,hgl⟩:=Jk HROW.out (by omega)
   have c0 : wr.cell? ⟨g, j, none⟩ = some (us[j]'hjv) := by rw [HB.out.cell (p := ⟨g, _, none⟩) hgl, hcs _ (by omega)]; exact List.getElem?_eq_getElem hjv
   have hsq:=zA.get HSQ.out j hlt hjv
   have hdj:=Nat.le_trans (KH c j hlt) hk
   have hed:=zcO (zJ (Eb names E)) c j hlt
   obtain⟨vs,⟨hrow,hAr⟩,hts⟩:=hsq
   obtain⟨sa,sc,hvx⟩:=zl hrow
   rw[hvx] at c0 hrow
   have hcaps:=KR hrow
   have HED:Hid (Thk.zx (zJ (Eb names E)) (c.drop j)=(Thk.Zc (zJ (Eb names E)) c[j] || Thk.zx (zJ (Eb names E)) (c.drop (j+1)))):=hed
   have hlt':(j:Int)<c.length:=by omega
   obtain⟨s,hs⟩:∃ s,s=c[j]:=⟨_,rfl⟩
   rw[← hs] at hrow hts hdj c0 hcaps
   have HED:Hid (Thk.zx (zJ (Eb names E)) (c.drop j)=(Thk.Zc (zJ (Eb names E)) s || Thk.zx (zJ (Eb names E)) (c.drop (j+1)))):=by rw[hs];exact hed
   have HVLs:Hid (s.length=vs.length):=zD.length hts
   have HROWs:Hid (w.ownsRow 0 100 3 (.slice sa s.length sc) s.length (QM s vs)):=hrow
   have HTS:Hid (zD w A s vs):=hts
   clear hed hvx hcs hs hrow hts hAr hgl
   go_wp2_with fail
   go_loopg [19] s.length (fun m i wx=>∃ i1:Nat,m=s.length - i1∧i1≤s.length∧i = .int .i64 i1∧Below w.heap.size w wx∧Hid (Thk.Zc (zJ (Eb names E)) s=Thk.Zc (zJ (Eb names E)) (s.drop i1)))
   case atStart=>exact⟨0,rfl,Nat.zero_le _,rfl,HB.out,rfl⟩
   case round=>
    obtain⟨i,rfl,hi,rfl,hb2,hS⟩:=hrel
    have HB2:Hid (Below w.heap.size w wr):=hb2
    have hsz2:=hb2.size
    clear hb2
    by_cases hlti:i<s.length
    ·have hiv:i<vs.length:=by have:=HVLs.out;omega
     obtain⟨g2,rfl,hcs2,hgl2⟩:=Jk HROWs.out (by omega)
     obtain⟨t0,t1,t2⟩:=V1 s vs HVLs.out i hlti
     have d0:wr.cell? ⟨g2,i * 3,none⟩=some (.int .u8 s[i].ahead.toNat):=by rw[HB2.out.cell (p:=⟨g2,_,none⟩) hgl2,hcs2 _ (by omega)];exact t0
     have d1 : wr.cell? ⟨g2, i * 3 + 1, none⟩ = some (vs[i]'hiv) := by rw [HB2.out.cell (p := ⟨g2, _, none⟩) hgl2, hcs2 _ (by omega)]; exact t1
     have d2:wr.cell? ⟨g2,i * 3+2,none⟩=some (.int .u8 s[i].behind.toNat):=by rw[HB2.out.cell (p:=⟨g2,_,none⟩) hgl2,hcs2 _ (by omega)];exact t2
     have htr:=zD.get HTS.out i hlti hiv
     have hcl := fun O => zfZ (wr.alloc O) bx mb eb names E A s[i] (vs[i]'hiv) (HF.out.below (HB2.out.alloc hsz2 O)) (Zk.kept (ZF (HB2.out.alloc hsz2 O)) _ _ htr)
     have hdt:Jx s[i]≤k:=Nat.le_trans (KI s i hlti) hdj
     have hsd:=zcP (zJ (Eb names E)) s i hlti
     have hlti':(i:Int)<s.length:=by omega
     obtain⟨t,ht⟩:∃ t,t=s[i]:=⟨_,rfl⟩
     obtain ⟨vv, hvv⟩ : ∃ vv, vv = vs[i]'hiv := ⟨_, rfl⟩
     rw[← ht] at d0 d2 htr hdt hsd
     rw[← hvv] at d1 htr
     simp only[← ht,← hvv] at hcl
     have HSD:Hid (Thk.Zc (zJ (Eb names E)) (s.drop i)=(Thk.ZG (zJ (Eb names E)) t || Thk.Zc (zJ (Eb names E)) (s.drop (i+1)))):=hsd
     clear hsd ht hvv t0 t1 t2 hcs2 hgl2
     obtain⟨ta,tp,tb⟩:=t
     simp only[Zk] at htr
     simp only[Jx] at hdt
     obtain⟨vt,vx,rfl⟩:=zp.oneCell htr
     simp only[QN,Thk.Term.ahead,Thk.Term.behind] at hcl d0 d2
     have HTP:Hid (zp w A tp (.iface vt vx)):=htr
     have HST:Hid (Thk.ZG (zJ (Eb names E)) (.mk ta tp tb)=((zJ (Eb names E)) (.mk ta tp tb) || Thk.Zi (zJ (Eb names E)) tp)):=by show _=_;simp only[Thk.ZG]
     clear htr
     obtain⟨r,hr⟩:∃ r,r=(zJ (Eb names E)) (.mk ta tp tb):=⟨_,rfl⟩
     simp only[← hr] at hcl
     have HRr:Hid (r=(zJ (Eb names E)) (.mk ta tp tb)):=hr
     clear hr
     cases r with
     | true=>
      go_wp2_with fail
      refine (hcl _).mono ?_
      rintro e w1 ⟨rfl,hb1⟩
      have hs1:=hb1.size
      simp at hs1
      have hb3:Below w.heap.size w w1:=(HB2.out.alloc hsz2 _).trans (hb1.mono (by simp;omega))
      clear hcl hb1
      go_wp2_with fail
      go_ret
      exact⟨by rw[hH.out,HED.out,hS.out,HSD.out,HST.out,← HRr.out];simp,hb3⟩
     | false=>
      go_wp2_with fail
      refine (hcl _).mono ?_
      rintro e w1 ⟨rfl,hb1⟩
      have hs1:=hb1.size
      simp at hs1
      have hb3:Below w.heap.size w w1:=(HB2.out.alloc hsz2 _).trans (hb1.mono (by simp;omega))
      have hct:∀ o,w1.cell? ⟨wr.heap.size,o,none⟩=(#[.int .u8 ta.toNat,.iface vt vx,.int .u8 tb.toNat]:Array Value)[o]? := fun o=>by
       rw[hb1.cell (p:=⟨wr.heap.size,o,none⟩) (by simp)];exact z8 (zk _ _) o
      have HB3:Hid (Below w.heap.size w w1):=hb3
      have hs3:w.heap.size≤w1.heap.size:=hb3.size
      have hwr1:wr.heap.size<w1.heap.size:=by omega
      clear hcl hb1 hb3
      have fin:∀ w5,Below w.heap.size w w5→Thk.Zi (zJ (Eb names E)) tp=false→∃ i1:Nat,s.length - (i+1)=s.length - i1∧i1≤s.length∧Value.int IntKind.i64 ((i:Int)+1) = .int .i64 i1∧Below w.heap.size w w5∧Hid (Thk.Zc (zJ (Eb names E)) s=Thk.Zc (zJ (Eb names E)) (s.drop i1)):=by
       intro w5 h5 hsp
       refine⟨i+1,rfl,by omega,by go_num,h5,?_⟩
       show _=_
       rw[hS.out,HSD.out,HST.out,← HRr.out,hsp];simp
      have FIN:=(show Hid _ from fin)
      clear fin
      cases tp with
      | group c2=>
       have htp:=HTP.out
       simp only[zp] at htp
       obtain⟨u2,us2,hux,hrow2,hseqs2⟩:=htp
       obtain⟨u2a,u2c,rfl⟩:=zl hrow2.1
       simp only[Value.iface.injEq] at hux
       obtain⟨rfl,rfl⟩:=hux
       have hdep:Qt c2<k:=by simp only[Y6] at hdt;omega
       have hrec:=fun O=>hC _ hdep (w1.alloc O) bx mb eb names E A c2 (.slice u2a c2.length u2c) (HF.out.below (HB3.out.alloc hs3 O)) (Zt.kept (ZF (HB3.out.alloc hs3 O)) ⟨us2,hrow2,hseqs2⟩) (Nat.le_refl _)
       have a1:=Vo
       obtain⟨r2,hr2⟩:∃ r2,r2=Thk.zx (zJ (Eb names E)) c2:=⟨_,rfl⟩
       simp only[← hr2] at hrec
       have HR2:Hid (r2=Thk.Zi (zJ (Eb names E)) (.group c2)):=by show _=_;simp only[Thk.Zi];exact hr2
       clear hr2 hrow2 hseqs2 hdep
       cases r2 with
       | true=>
        go_wp2_with fail
        refine (hrec _).mono ?_
        rintro e w5 ⟨rfl,hb5⟩
        have hb6:Below w.heap.size w w5:=(HB3.out.alloc hs3 _).trans (hb5.mono (by simp;omega))
        clear hrec hb5
        go_wp2_with fail
        go_ret
        exact⟨by rw[hH.out,HED.out,hS.out,HSD.out,HST.out,← HR2.out];simp,hb6⟩
       | false=>
        go_wp2_with fail
        refine (hrec _).mono ?_
        rintro e w5 ⟨rfl,hb5⟩
        have hb6:Below w.heap.size w w5:=(HB3.out.alloc hs3 _).trans (hb5.mono (by simp;omega))
        have hN:=FIN.out w5 hb6 HR2.out.symm
        clear hrec hb5
        go_wp2_with fail
        go_roundg (s.length - (i+1))
        case measure=>omega
        case rel=>exact hN
      | name b=>
       have htp:=HTP.out
       simp only[zp] at htp
       simp only[Value.iface.injEq] at htp
       obtain⟨⟨rfl,rfl⟩,_⟩:=htp
       have a1:=zaZ
       have hN:=FIN.out
       go_wp2_with fail
       go_roundg (s.length - (i+1))
       case measure=>omega
       case rel=>exact FIN.out _ (HB3.out.alloc hs3 _) rfl
      | lit b=>
       have htp:=HTP.out
       simp only[zp] at htp
       simp only[Value.iface.injEq] at htp
       obtain⟨rfl,rfl⟩:=htp
       have a1:=Ug
       go_wp2_with fail
       go_roundg (s.length - (i+1))
       case measure=>omega
       case rel=>exact FIN.out _ (HB3.out.alloc hs3 _) rfl
      | cls b=>
       have htp:=HTP.out
       simp only[zp] at htp
       obtain⟨u3,hux,_⟩:=htp
       simp only[Value.iface.injEq] at hux
       obtain⟨rfl,rfl⟩:=hux
       have a1:=Ud
       go_wp2_with fail
       go_roundg (s.length - (i+1))
       case measure=>omega
       case rel=>exact FIN.out _ (HB3.out.alloc hs3 _) rfl
      | any=>
       have htp:=HTP.out
       simp only[zp] at htp
       simp only[Value.iface.injEq] at htp
       obtain⟨rfl,rfl⟩:=htp
       have a1:=Vn
       go_wp2_with fail
       go_roundg (s.length - (i+1))
       case measure=>omega
       case rel=>exact FIN.out _ (HB3.out.alloc hs3 _) rfl
    ·have hie:i=s.length:=by omega
     have HN:Hid (R=Thk.zx (zJ (Eb names E)) (c.drop (j+1))):=by
      show _=_
      rw[hH.out,HED.out,hS.out,hie,List.drop_length];simp only[Thk.Zc,Bool.false_or]
     clear hS
     go_wp2_with fail
     go_roundg (c.length - (j+1))
     case measure=>omega
     case rel=>exact⟨j+1,rfl,by omega,by go_num,HB2.out,HN⟩
  ·have hje:j=c.length:=by omega
   have hRt:Hid (R=false):=by
    have h1:=hH.out
    rw[hje,List.drop_length] at h1
    exact h1
   clear hH
   go_wp2_with fail
   go_ret
   exact⟨by rw[hRt.out];rfl,HB.out⟩
theorem ziQ (k:Nat):qD k:=by
 induction k using Nat.strongRecOn with
 | ind k ih=>exact ziS k ih
end Go.Proofs.YtiganlkabilblaaDoor
