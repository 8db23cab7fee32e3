import Derived.Test.YtiganlkabilblaaGreatDoorV11
set_option linter.all false
set_option maxHeartbeats 64000000
set_option maxRecDepth 100000
namespace Go.Proofs.YtiganlkabilblaaGreatDoor
open Go.RowKit
theorem zja {c:UInt8} {t:List UInt8} (h:Thk.Qf c=true):Thk.zM (c::t)=⟨.sign c,0,1,[],[]⟩:=by
 have h':=h
 simp[Thk.Qf] at h'
 have h1:Thk.Qu c=false:=by rcases h' with rfl | rfl | rfl | rfl | rfl | rfl | rfl | rfl | rfl<;>decide
 have h2:c≠60∧c≠39∧c≠91:=by rcases h' with rfl | rfl | rfl | rfl | rfl | rfl | rfl | rfl | rfl<;>decide
 simp[Thk.zM,h1,h2.1,h2.2.1,h2.2.2,h]
theorem VC (c:UInt8):Thk.Qu c=true↔97≤c.toNat∧c.toNat≤122:=by
 unfold Thk.Qu
 simp[UInt8.le_iff_toNat_le]
theorem zfL {c:UInt8} (h:Thk.Qu c=true):c≠60∧c≠39∧c≠91∧Thk.Qf c=false:=by
 rw[VC] at h
 have h60:c≠60:=by rintro rfl;simp at h
 have h39:c≠39:=by rintro rfl;simp at h
 have h91:c≠91:=by rintro rfl;simp at h
 refine⟨h60,h39,h91,?_⟩
 cases hs:Thk.Qf c with
 | false=>rfl
 | true=>
  simp[Thk.Qf] at hs
  rcases hs with rfl | rfl | rfl | rfl | rfl | rfl | rfl | rfl | rfl<;>simp at h
theorem zeP (s:ByteArray) (k:Nat) (h:k<s.size):s.extract k (k+1)=⟨[s[k]].toArray⟩:=by
 rw[Vx,Q6 s k h];rfl
def zaO (s:ByteArray) (k:Nat) (w:World) (e:Ending) (w':World):Prop:=∃ v,
 e = .returned (ZN (zG k (s.data.toList.drop k)) v)∧Below w.heap.size w w'∧Items w' w.heap.size v (zr (zG k (s.data.toList.drop k)))
theorem zi0 (s:ByteArray) (k:Nat) (w:World) (hs:s.size≤2000) (hk:k≤s.size) :
  Calls Tryz.prog 97 #[.string s,.int .i64 k] w fun e w'=>zaO s k w e w':=by
 unfold zaO
 rw[zd9]
 have hbl:=Kb false (s.data.toList.drop k)
 rw[List.length_drop,show s.data.toList.length=s.size from rfl] at hbl
 obtain⟨r,hr⟩:∃ r,r=k+Thk.blk false (s.data.toList.drop k):=⟨_,rfl⟩
 rw[← hr]
 have hrs:r≤s.size:=by omega
 have hblk:=fun w=>zhq s k r w hk hs (show Hid _ from hr.symm)
 clear hr hbl
 by_cases hlt:r<s.size
 ·have hsg:=fun r' (h:Thk.Qf s[r]=r') w=>VO ⟨#[47,38,33,63,42,43,40,41,46]⟩ s[r] r' w (by decide) h
  rw[Q6 s r hlt]
  cases hS:Thk.Qf s[r] with
  | true=>
   have hsg:=hsg _ hS
   rw[zja hS]
   have HX:=(show Hid _ from zeP s r hlt)
   clear hS
   go_enter Tryz.func97,Tryz.ntmps97
   go_wp2_with fail
   refine (hblk _).mono ?_
   rintro e w' ⟨rfl,rfl⟩
   go_wp2_with fail
   refine (hsg _).mono ?_
   rintro e w' ⟨rfl,rfl⟩
   go_wp2_with fail
   refine bodyPost_ret (v:=.agg #[.int .i64 5,.int .i64 r,.int .i64 ↑(r+1),.string (s.extract r (r+1)),.slice none 0 0]) (by simp[results,Tryz.results97,go_sem]) rfl ⟨.slice none 0 0,?_,?_,World.ownsRow_nil _ _ _ _⟩
   ·rw[HX.out];rfl
   ·exact zc _ _
  | false=>
   have hsg:=hsg _ hS
   by_cases hA:s[r]=60∧∃ h:r+1<s.size,s[r+1]=45
   ·obtain⟨h60,hlt1,h45⟩:=hA
    have hT:Thk.zM (s[r]::s.data.toList.drop (r+1))=⟨.arrow,0,2,[],[]⟩:=by
     rw[Q6 s (r+1) hlt1,h60,h45];rfl
    rw[hT]
    have t60:=QW h60 60 rfl
    have t45:=QW h45 45 rfl
    clear hS h60 h45 hT
    go_enter Tryz.func97,Tryz.ntmps97
    go_wp2_with fail
    refine (hblk _).mono ?_
    rintro e w' ⟨rfl,rfl⟩
    go_wp2_with fail
    refine (hsg _).mono ?_
    rintro e w' ⟨rfl,rfl⟩
    go_wp2_with fail
    refine bodyPost_ret (v:=.agg #[.int .i64 2,.int .i64 r,.int .i64 ↑(r+2),.string ⟨#[]⟩,.slice none 0 0]) (by simp[results,Tryz.results97,go_sem]) rfl ⟨.slice none 0 0,?_,?_,World.ownsRow_nil _ _ _ _⟩
    ·rfl
    ·exact zc _ _
   ·have hAL:¬ (s[r]=60∧(s.data.toList.drop (r+1)).head? = some 45):=by
     rintro⟨h1,h2⟩
     apply hA
     refine⟨h1,?_⟩
     by_cases h:r+1<s.size
     ·rw[Q6 s (r+1) h] at h2
      exact⟨h,by simpa using h2⟩
     ·rw[J6 s (r+1) (by omega)] at h2;simp at h2
    -- what the walk needs of the arrow's test
    have hAw:((s[r].toNat:Int) == 60)=false∨(((s[r].toNat:Int) == 60)=true∧¬ r+1<s.size)∨(((s[r].toNat:Int) == 60)=true∧∃ h:r+1<s.size,((s[r+1].toNat:Int) == 45)=false):=by
     by_cases h1:s[r]=60
     ·by_cases h2:r+1<s.size
      ·refine .inr (.inr ⟨QW h1 60 rfl,h2,Q3 (fun e=>hA ⟨h1,h2,e⟩) 45 rfl⟩)
      ·exact .inr (.inl ⟨QW h1 60 rfl,h2⟩)
     ·exact .inl (Q3 h1 60 rfl)
    by_cases h39:s[r]=39
    ·have hT:Thk.zM (s[r]::s.data.toList.drop (r+1))=Thk.Qv (s.data.toList.drop (r+1)):=by
      simp only[Thk.zM]
      rw[if_neg (by rw[h39];decide),if_neg hAL,if_pos h39]
     rw[hT]
     have hlit:=fun w=>zhW s r w hs hlt
     have t60:((s[r].toNat:Int) == 60)=false:=by rw[h39];rfl
     have t39:=QW h39 39 rfl
     obtain⟨T,hTT⟩:∃ T,T=Thk.Qv (s.data.toList.drop (r+1)):=⟨_,rfl⟩
     simp only[← hTT] at hlit ⊢
     clear hS h39 hT hAw hAL hA hTT
     go_enter Tryz.func97,Tryz.ntmps97
     go_wp2_with fail
     refine (hblk _).mono ?_
     rintro e w' ⟨rfl,rfl⟩
     go_wp2_with fail
     refine (hsg _).mono ?_
     rintro e w' ⟨rfl,rfl⟩
     go_wp2_with fail
     refine (hlit _).mono ?_
     rintro e w1 ⟨v,rfl,hb,hI⟩
     have hI':w1.ownsRow (w.heap.size+1) 303 2 v (zr T).length ((zr T).flatMap ZO):=by simpa [Items] using hI
     obtain⟨va,vc,hv⟩:=zl hI'
     rw[hv] at hI' ⊢
     have hsz:=hb.size
     simp at hsz
     have hres:w1.heap[w.heap.size]? = some (JV 0 0 0 ⟨#[]⟩ (.slice none 0 0)):=by
      rw[hb.block _ (by simp)];exact heap_alloc_new _ _
     have hqr:=z8 hres
     have hfr:=zi hres
     have HB:Hid (Below w.heap.size w w1):=(zc _ _).trans (hb.mono (by simp))
     have HI:Hid (w1.ownsRow (w.heap.size+1) 303 2 (.slice va (zr T).length vc) (zr T).length ((zr T).flatMap ZO)):=hI'
     clear hb hI hI' hv hres hlit
     simp only[ZN]
     go_wp2_with fail
     refine bodyPost_ret (v:=ZN { T with place:=r } (.slice va (zr T).length vc)) (by simp[results,Tryz.results97,go_sem,ZN,hqr,show w.heap.size<w1.heap.size from by omega]) rfl ⟨.slice va (zr T).length vc,rfl,?_,?_⟩
     ·exact ((((HB.out.setCell (Nat.le_refl _) _).setCell (Nat.le_refl _) _).setCell (Nat.le_refl _) _).setCell (Nat.le_refl _) _).setCell (Nat.le_refl _) _
     ·exact Zn (ZL (ZL (ZL (ZL (ZL HI.out (by omega)) (by omega)) (by omega)) (by omega)) (by omega)) (by omega:w.heap.size≤w.heap.size+1)
    ·have t39:=Q3 h39 39 rfl
     by_cases h91:s[r]=91
     ·have hT:Thk.zM (s[r]::s.data.toList.drop (r+1))=Thk.QB (s.data.toList.drop (r+1)):=by
       simp only[Thk.zM]
       rw[if_neg (by rw[h91];decide),if_neg hAL,if_neg h39,if_pos h91]
      rw[hT]
      have hlit:=fun w=>zhw s r w hs hlt
      have t60:((s[r].toNat:Int) == 60)=false:=by rw[h91];rfl
      have t91:=QW h91 91 rfl
      obtain⟨T,hTT⟩:∃ T,T=Thk.QB (s.data.toList.drop (r+1)):=⟨_,rfl⟩
      simp only[← hTT] at hlit ⊢
      clear hS h39 h91 hT hAw hAL hA hTT
      go_enter Tryz.func97,Tryz.ntmps97
      go_wp2_with fail
      refine (hblk _).mono ?_
      rintro e w' ⟨rfl,rfl⟩
      go_wp2_with fail
      refine (hsg _).mono ?_
      rintro e w' ⟨rfl,rfl⟩
      go_wp2_with fail
      refine (hlit _).mono ?_
      rintro e w1 ⟨v,rfl,hb,hI⟩
      have hI':w1.ownsRow (w.heap.size+1) 303 2 v (zr T).length ((zr T).flatMap ZO):=by simpa [Items] using hI
      obtain⟨va,vc,hv⟩:=zl hI'
      rw[hv] at hI' ⊢
      have hsz:=hb.size
      simp at hsz
      have hres:w1.heap[w.heap.size]? = some (JV 0 0 0 ⟨#[]⟩ (.slice none 0 0)):=by
       rw[hb.block _ (by simp)];exact heap_alloc_new _ _
      have hqr:=z8 hres
      have hfr:=zi hres
      have HB:Hid (Below w.heap.size w w1):=(zc _ _).trans (hb.mono (by simp))
      have HI:Hid (w1.ownsRow (w.heap.size+1) 303 2 (.slice va (zr T).length vc) (zr T).length ((zr T).flatMap ZO)):=hI'
      clear hb hI hI' hv hres hlit
      simp only[ZN]
      go_wp2_with fail
      refine bodyPost_ret (v:=ZN { T with place:=r } (.slice va (zr T).length vc)) (by simp[results,Tryz.results97,go_sem,ZN,hqr,show w.heap.size<w1.heap.size from by omega]) rfl ⟨.slice va (zr T).length vc,rfl,?_,?_⟩
      ·exact ((((HB.out.setCell (Nat.le_refl _) _).setCell (Nat.le_refl _) _).setCell (Nat.le_refl _) _).setCell (Nat.le_refl _) _).setCell (Nat.le_refl _) _
      ·exact Zn (ZL (ZL (ZL (ZL (ZL HI.out (by omega)) (by omega)) (by omega)) (by omega)) (by omega)) (by omega:w.heap.size≤w.heap.size+1)
     ·have t91:=Q3 h91 91 rfl
      cases hL:Thk.Qu s[r] with
      | false=>
       have hT:Thk.zM (s[r]::s.data.toList.drop (r+1))=Thk.zB:=by
        simp only[Thk.zM]
        rw[if_neg (by rw[hL];simp),if_neg hAL,if_neg h39,if_neg h91,if_neg (by rw[hS];simp)]
       rw[hT]
       have hl:(s[r].toNat:Int)<97∨(¬ (s[r].toNat:Int)<97∧(122:Int)<s[r].toNat):=by
        have h:¬ (97≤s[r].toNat∧s[r].toNat≤122):=by rw[← VC,hL];simp
        omega
       clear hS h39 h91 hT hAL hA hL
       rcases hl with l1 | ⟨l1,l2⟩<;>rcases hAw with a1 | ⟨a1,a2⟩ | ⟨a1,a2,a3⟩
       all_goals
        go_enter Tryz.func97,Tryz.ntmps97
        go_wp2_with fail
        refine (hblk _).mono ?_
        rintro e w' ⟨rfl,rfl⟩
        go_wp2_with fail
        refine (hsg _).mono ?_
        rintro e w' ⟨rfl,rfl⟩
        go_wp2_with fail
        refine bodyPost_ret (v:=.agg #[.int .i64 7,.int .i64 r,.int .i64 0,.string ⟨#[]⟩,.slice none 0 0]) (by simp[results,Tryz.results97,go_sem]) rfl ⟨.slice none 0 0,?_,?_,World.ownsRow_nil _ _ _ _⟩
        ·rfl
        ·exact zc _ _
      | true=>
       have hT:Thk.zM (s[r]::s.data.toList.drop (r+1))=Thk.Ql (s.data.toList.drop r):=by
        simp only[Thk.zM]
        rw[if_pos hL,Q6 s r hlt]
       rw[hT]
       have hle:=za8 (s.data.toList.drop r)
       have hx:=Vx s r (Thk.ZQ (s.data.toList.drop r))
       rw[List.length_drop,show s.data.toList.length=s.size from rfl] at hle
       have t60:((s[r].toNat:Int) == 60)=false:=Q3 (zfL hL).1 60 rfl
       have hl:=(VC _).1 hL
       have l1:¬ (s[r].toNat:Int)<97:=by omega
       have l2:¬ (122:Int)<s[r].toNat:=by omega
       obtain⟨N,hN⟩:∃ N,N=Thk.ZQ (s.data.toList.drop r):=⟨_,rfl⟩
       obtain⟨T,hTT⟩:∃ T,T=Thk.Ql (s.data.toList.drop r):=⟨_,rfl⟩
       have hT1 : 12<N→T=Thk.zB:=by intro h;rw[hTT];unfold Thk.Ql;rw[← hN,if_pos h]
       have hT2:N≤12→T=⟨.name,0,N,(s.data.toList.drop r).take N,[]⟩:=by intro h;rw[hTT];unfold Thk.Ql;rw[← hN,if_neg (by omega)]
       rw[← hN] at hle hx
       rw[← hTT]
       have HT1:Hid (12<N→T=Thk.zB):=hT1
       have HT2:Hid (N≤12→T=⟨.name,0,N,(s.data.toList.drop r).take N,[]⟩):=hT2
       have HN:Hid (N=Thk.ZQ (s.data.toList.drop r)):=hN
       have HX:Hid (s.extract r (r+N)=⟨((s.data.toList.drop r).take N).toArray⟩):=hx
       clear hN hx hTT hT1 hT2 hS h39 h91 hT hAL hA hL hl hAw
       go_enter Tryz.func97,Tryz.ntmps97
       go_wp2_with fail
       refine (hblk _).mono ?_
       rintro e w' ⟨rfl,rfl⟩
       go_wp2_with fail
       refine (hsg _).mono ?_
       rintro e w' ⟨rfl,rfl⟩
       go_wp2_with fail
       go_loop [7] (fun i=>∃ j:Nat,j≤N∧i = .int .i64 ↑(r+j)∧Hid (N=j+Thk.ZQ (s.data.toList.drop (r+j)))) (fun i=>s.size - (intOf i).toNat)
       case atStart=>exact⟨0,Nat.zero_le _,rfl,by rw[Nat.zero_add,Nat.add_zero];exact HN⟩
       case round=>
        obtain⟨j,hj,rfl,hH⟩:=hrel
        by_cases hc:∃ hlt:r+j<s.size,Thk.Qu s[r+j]=true
        ·obtain⟨hltj,hc⟩:=hc
         have h1:j+1≤N∧Hid (N=(j+1)+Thk.ZQ (s.data.toList.drop (r+(j+1)))):=by
          have h:=hH.out
          rw[Q6 s (r+j) hltj] at h
          simp only[Thk.ZQ,hc,if_true] at h
          exact⟨by omega,show _=_ by rw[show r+(j+1)=r+j+1 from rfl];omega⟩
         have hl:=(VC _).1 hc
         have m1:(97:Int)≤s[r+j].toNat:=by omega
         have m2:(s[r+j].toNat:Int)≤122:=by omega
         clear hc hl
         go_wp2_with fail
         go_round
         case rel=>exact⟨j+1,h1.1,by go_num,h1.2⟩
         case measure=>simp[intOf];omega
        ·have h1:j=N:=by
          have h:=hH.out
          by_cases hltj:r+j<s.size
          ·have hc':Thk.Qu s[r+j]=false:=by
            cases hx:Thk.Qu s[r+j] with
            | false=>rfl
            | true=>exact absurd ⟨hltj,hx⟩ hc
           rw[Q6 s (r+j) hltj] at h
           simp[Thk.ZQ,hc'] at h
           exact h.symm
          ·rw[J6 s (r+j) (by omega)] at h
           simpa [Thk.ZQ] using h.symm
         have hcw:¬ r+j<s.size∨(∃ h:r+j<s.size,(97:Int)≤s[r+j].toNat∧¬ (s[r+j].toNat:Int)≤122)∨(∃ h:r+j<s.size,¬ (97:Int)≤s[r+j].toNat):=by
          by_cases hltj:r+j<s.size
          ·have hc':¬ (97≤s[r+j].toNat∧s[r+j].toNat≤122):=by rw[← VC];intro h;exact hc ⟨hltj,h⟩
           by_cases h97 : 97≤s[r+j].toNat
           ·exact .inr (.inl ⟨hltj,by omega,by omega⟩)
           ·exact .inr (.inr ⟨hltj,by omega⟩)
          ·exact .inl hltj
         clear hc hH
         subst h1
         have hrj:r+j≤s.size:=by omega
         by_cases h12 : 12<j
         ·have e1:=HT1.out h12
          subst e1
          clear HT1 HT2 HX HN
          rcases hcw with q1 | ⟨q1,q2,q3⟩ | ⟨q1,q2⟩
          all_goals
           go_wp2_with fail
           refine bodyPost_ret (v:=.agg #[.int .i64 7,.int .i64 r,.int .i64 0,.string ⟨#[]⟩,.slice none 0 0]) (by simp[results,Tryz.results97,go_sem]) rfl ⟨.slice none 0 0,?_,?_,World.ownsRow_nil _ _ _ _⟩
           ·rfl
           ·exact zc _ _
         ·have e1:=HT2.out (by omega)
          subst e1
          rcases hcw with q1 | ⟨q1,q2,q3⟩ | ⟨q1,q2⟩
          all_goals
           go_wp2_with fail
           refine bodyPost_ret (v:=.agg #[.int .i64 1,.int .i64 r,.int .i64 ↑(r+j),.string (s.extract r (r+j)),.slice none 0 0]) (by simp[results,Tryz.results97,go_sem]) rfl ⟨.slice none 0 0,?_,?_,World.ownsRow_nil _ _ _ _⟩
           ·rw[HX.out];rfl
           ·exact zc _ _
 ·rw[J6 s r (by omega)]
  have hrr:r=s.size:=by omega
  subst hrr
  go_enter Tryz.func97,Tryz.ntmps97
  go_wp2_with fail
  refine (hblk _).mono ?_
  rintro e w' ⟨rfl,rfl⟩
  go_wp2_with fail
  refine bodyPost_ret (v:=.agg #[.int .i64 6,.int .i64 s.size,.int .i64 0,.string ⟨#[]⟩,.slice none 0 0]) (by simp[results,Tryz.results97,go_sem]) rfl ⟨.slice none 0 0,?_,?_,World.ownsRow_nil _ _ _ _⟩
  ·rfl
  ·exact zc _ _
end Go.Proofs.YtiganlkabilblaaGreatDoor
