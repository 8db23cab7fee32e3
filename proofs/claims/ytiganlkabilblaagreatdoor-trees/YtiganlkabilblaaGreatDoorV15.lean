import Derived.Test.YtiganlkabilblaaGreatDoorV11
set_option linter.all false
set_option maxHeartbeats 64000000
set_option maxRecDepth 100000
namespace Go.Proofs.YtiganlkabilblaaGreatDoor
open Go.RowKit
theorem tokL_sign {c:UInt8} {t:List UInt8} (h:Thk.signB c=true):Thk.tokL (c::t)=⟨.sign c,0,1,[],[]⟩:=by
 have h':=h
 simp[Thk.signB] at h'
 have h1:Thk.isLet c=false:=by rcases h' with rfl | rfl | rfl | rfl | rfl | rfl | rfl | rfl | rfl<;>decide
 have h2:c≠60∧c≠39∧c≠91:=by rcases h' with rfl | rfl | rfl | rfl | rfl | rfl | rfl | rfl | rfl<;>decide
 simp[Thk.tokL,h1,h2.1,h2.2.1,h2.2.2,h]
theorem zdJ (c:UInt8):Thk.isLet c=true↔97≤c.toNat∧c.toNat≤122:=by
 unfold Thk.isLet
 simp[UInt8.le_iff_toNat_le]
theorem let_not {c:UInt8} (h:Thk.isLet c=true):c≠60∧c≠39∧c≠91∧Thk.signB c=false:=by
 rw[zdJ] at h
 have h60:c≠60:=by rintro rfl;simp at h
 have h39:c≠39:=by rintro rfl;simp at h
 have h91:c≠91:=by rintro rfl;simp at h
 refine⟨h60,h39,h91,?_⟩
 cases hs:Thk.signB c with
 | false=>rfl
 | true=>
  simp[Thk.signB] at hs
  rcases hs with rfl | rfl | rfl | rfl | rfl | rfl | rfl | rfl | rfl<;>simp at h
theorem extract_one (s:ByteArray) (k:Nat) (h:k<s.size):s.extract k (k+1)=⟨[s[k]].toArray⟩:=by
 rw[zbM,zay s k h];rfl
def NextPost (s:ByteArray) (k:Nat) (w:World) (e:Ending) (w':World):Prop:=∃ v,
 e = .returned (rtokV (tokAt k (s.data.toList.drop k)) v)∧Below w.heap.size w w'∧Items w' w.heap.size v (zac (tokAt k (s.data.toList.drop k)))
theorem rnext_any (s:ByteArray) (k:Nat) (w:World) (hs:s.size≤2000) (hk:k≤s.size) :
  Calls Tryz.prog 97 #[.string s,.int .i64 k] w fun e w'=>NextPost s k w e w':=by
 unfold NextPost
 rw[zf6]
 have hbl:=zdi false (s.data.toList.drop k)
 rw[List.length_drop,show s.data.toList.length=s.size from rfl] at hbl
 obtain⟨r,hr⟩:∃ r,r=k+Thk.blk false (s.data.toList.drop k):=⟨_,rfl⟩
 rw[← hr]
 have hrs:r≤s.size:=by omega
 have hblk:=fun w=>rblanks_of s k r w hk hs (show Hid _ from hr.symm)
 clear hr hbl
 by_cases hlt:r<s.size
 ·have hsg:=fun r' (h:Thk.signB s[r]=r') w=>zdA ⟨#[47,38,33,63,42,43,40,41,46]⟩ s[r] r' w (by decide) h
  rw[zay s r hlt]
  cases hS:Thk.signB s[r] with
  | true=>
   have hsg:=hsg _ hS
   rw[tokL_sign hS]
   have HX:=(show Hid _ from extract_one s r hlt)
   clear hS
   go_enter Tryz.func97,Tryz.ntmps97
   go_wp2_with fail
   refine (hblk _).mono ?_
   rintro e w' ⟨rfl,rfl⟩
   go_wp2_with fail
   refine (hsg _).mono ?_
   rintro e w' ⟨rfl,rfl⟩
   go_wp2_with fail
   refine bodyPost_ret (v:=.agg #[.int .i64 5,.int .i64 r,.int .i64 ↑(r+1),.string (s.extract r (r+1)),.slice none 0 0]) (by simp[results,Tryz.results97,go_sem]) rfl ⟨.slice none 0 0,?_,?_,World.ownsRow_nil _ _ _ _⟩
   ·rw[HX.out];rfl
   ·exact za1 _ _
  | false=>
   have hsg:=hsg _ hS
   by_cases hA:s[r]=60∧∃ h:r+1<s.size,s[r+1]=45
   ·obtain⟨h60,hlt1,h45⟩:=hA
    have hT:Thk.tokL (s[r]::s.data.toList.drop (r+1))=⟨.arrow,0,2,[],[]⟩:=by
     rw[zay s (r+1) hlt1,h60,h45];rfl
    rw[hT]
    have t60:=zaC h60 60 rfl
    have t45:=zaC h45 45 rfl
    clear hS h60 h45 hT
    go_enter Tryz.func97,Tryz.ntmps97
    go_wp2_with fail
    refine (hblk _).mono ?_
    rintro e w' ⟨rfl,rfl⟩
    go_wp2_with fail
    refine (hsg _).mono ?_
    rintro e w' ⟨rfl,rfl⟩
    go_wp2_with fail
    refine bodyPost_ret (v:=.agg #[.int .i64 2,.int .i64 r,.int .i64 ↑(r+2),.string ⟨#[]⟩,.slice none 0 0]) (by simp[results,Tryz.results97,go_sem]) rfl ⟨.slice none 0 0,?_,?_,World.ownsRow_nil _ _ _ _⟩
    ·rfl
    ·exact za1 _ _
   ·have hAL:¬ (s[r]=60∧(s.data.toList.drop (r+1)).head? = some 45):=by
     rintro⟨h1,h2⟩
     apply hA
     refine⟨h1,?_⟩
     by_cases h:r+1<s.size
     ·rw[zay s (r+1) h] at h2
      exact⟨h,by simpa using h2⟩
     ·rw[zaX s (r+1) (by omega)] at h2;simp at h2
    -- what the walk needs of the arrow's test
    have hAw:((s[r].toNat:Int) == 60)=false∨(((s[r].toNat:Int) == 60)=true∧¬ r+1<s.size)∨(((s[r].toNat:Int) == 60)=true∧∃ h:r+1<s.size,((s[r+1].toNat:Int) == 45)=false):=by
     by_cases h1:s[r]=60
     ·by_cases h2:r+1<s.size
      ·refine .inr (.inr ⟨zaC h1 60 rfl,h2,zaj (fun e=>hA ⟨h1,h2,e⟩) 45 rfl⟩)
      ·exact .inr (.inl ⟨zaC h1 60 rfl,h2⟩)
     ·exact .inl (zaj h1 60 rfl)
    by_cases h39:s[r]=39
    ·have hT:Thk.tokL (s[r]::s.data.toList.drop (r+1))=Thk.litT (s.data.toList.drop (r+1)):=by
      simp only[Thk.tokL]
      rw[if_neg (by rw[h39];decide),if_neg hAL,if_pos h39]
     rw[hT]
     have hlit:=fun w=>rliteral_any s r w hs hlt
     have t60:((s[r].toNat:Int) == 60)=false:=by rw[h39];rfl
     have t39:=zaC h39 39 rfl
     obtain⟨T,hTT⟩:∃ T,T=Thk.litT (s.data.toList.drop (r+1)):=⟨_,rfl⟩
     simp only[← hTT] at hlit ⊢
     clear hS h39 hT hAw hAL hA hTT
     go_enter Tryz.func97,Tryz.ntmps97
     go_wp2_with fail
     refine (hblk _).mono ?_
     rintro e w' ⟨rfl,rfl⟩
     go_wp2_with fail
     refine (hsg _).mono ?_
     rintro e w' ⟨rfl,rfl⟩
     go_wp2_with fail
     refine (hlit _).mono ?_
     rintro e w1 ⟨v,rfl,hb,hI⟩
     have hI':w1.ownsRow (w.heap.size+1) 303 2 v (zac T).length ((zac T).flatMap spanC):=by simpa [Items] using hI
     obtain⟨va,vc,hv⟩:=za9 hI'
     rw[hv] at hI' ⊢
     have hsz:=hb.size
     simp at hsz
     have hres:w1.heap[w.heap.size]? = some (rtokO 0 0 0 ⟨#[]⟩ (.slice none 0 0)):=by
      rw[hb.block _ (by simp)];exact heap_alloc_new _ _
     have hqr:=za0 hres
     have hfr:=za2 hres
     have HB:Hid (Below w.heap.size w w1):=(za1 _ _).trans (hb.mono (by simp))
     have HI:Hid (w1.ownsRow (w.heap.size+1) 303 2 (.slice va (zac T).length vc) (zac T).length ((zac T).flatMap spanC)):=hI'
     clear hb hI hI' hv hres hlit
     simp only[rtokV]
     go_wp2_with fail
     refine bodyPost_ret (v:=rtokV { T with place:=r } (.slice va (zac T).length vc)) (by simp[results,Tryz.results97,go_sem,rtokV,hqr,show w.heap.size<w1.heap.size from by omega]) rfl ⟨.slice va (zac T).length vc,rfl,?_,?_⟩
     ·exact ((((HB.out.setCell (Nat.le_refl _) _).setCell (Nat.le_refl _) _).setCell (Nat.le_refl _) _).setCell (Nat.le_refl _) _).setCell (Nat.le_refl _) _
     ·exact zan (zaA (zaA (zaA (zaA (zaA HI.out (by omega)) (by omega)) (by omega)) (by omega)) (by omega)) (by omega:w.heap.size≤w.heap.size+1)
    ·have t39:=zaj h39 39 rfl
     by_cases h91:s[r]=91
     ·have hT:Thk.tokL (s[r]::s.data.toList.drop (r+1))=Thk.clsT (s.data.toList.drop (r+1)):=by
       simp only[Thk.tokL]
       rw[if_neg (by rw[h91];decide),if_neg hAL,if_neg h39,if_pos h91]
      rw[hT]
      have hlit:=fun w=>rclass_any s r w hs hlt
      have t60:((s[r].toNat:Int) == 60)=false:=by rw[h91];rfl
      have t91:=zaC h91 91 rfl
      obtain⟨T,hTT⟩:∃ T,T=Thk.clsT (s.data.toList.drop (r+1)):=⟨_,rfl⟩
      simp only[← hTT] at hlit ⊢
      clear hS h39 h91 hT hAw hAL hA hTT
      go_enter Tryz.func97,Tryz.ntmps97
      go_wp2_with fail
      refine (hblk _).mono ?_
      rintro e w' ⟨rfl,rfl⟩
      go_wp2_with fail
      refine (hsg _).mono ?_
      rintro e w' ⟨rfl,rfl⟩
      go_wp2_with fail
      refine (hlit _).mono ?_
      rintro e w1 ⟨v,rfl,hb,hI⟩
      have hI':w1.ownsRow (w.heap.size+1) 303 2 v (zac T).length ((zac T).flatMap spanC):=by simpa [Items] using hI
      obtain⟨va,vc,hv⟩:=za9 hI'
      rw[hv] at hI' ⊢
      have hsz:=hb.size
      simp at hsz
      have hres:w1.heap[w.heap.size]? = some (rtokO 0 0 0 ⟨#[]⟩ (.slice none 0 0)):=by
       rw[hb.block _ (by simp)];exact heap_alloc_new _ _
      have hqr:=za0 hres
      have hfr:=za2 hres
      have HB:Hid (Below w.heap.size w w1):=(za1 _ _).trans (hb.mono (by simp))
      have HI:Hid (w1.ownsRow (w.heap.size+1) 303 2 (.slice va (zac T).length vc) (zac T).length ((zac T).flatMap spanC)):=hI'
      clear hb hI hI' hv hres hlit
      simp only[rtokV]
      go_wp2_with fail
      refine bodyPost_ret (v:=rtokV { T with place:=r } (.slice va (zac T).length vc)) (by simp[results,Tryz.results97,go_sem,rtokV,hqr,show w.heap.size<w1.heap.size from by omega]) rfl ⟨.slice va (zac T).length vc,rfl,?_,?_⟩
      ·exact ((((HB.out.setCell (Nat.le_refl _) _).setCell (Nat.le_refl _) _).setCell (Nat.le_refl _) _).setCell (Nat.le_refl _) _).setCell (Nat.le_refl _) _
      ·exact zan (zaA (zaA (zaA (zaA (zaA HI.out (by omega)) (by omega)) (by omega)) (by omega)) (by omega)) (by omega:w.heap.size≤w.heap.size+1)
     ·have t91:=zaj h91 91 rfl
      cases hL:Thk.isLet s[r] with
      | false=>
       have hT:Thk.tokL (s[r]::s.data.toList.drop (r+1))=Thk.badT:=by
        simp only[Thk.tokL]
        rw[if_neg (by rw[hL];simp),if_neg hAL,if_neg h39,if_neg h91,if_neg (by rw[hS];simp)]
       rw[hT]
       have hl:(s[r].toNat:Int)<97∨(¬ (s[r].toNat:Int)<97∧(122:Int)<s[r].toNat):=by
        have h:¬ (97≤s[r].toNat∧s[r].toNat≤122):=by rw[← zdJ,hL];simp
        omega
       clear hS h39 h91 hT hAL hA hL
       rcases hl with l1 | ⟨l1,l2⟩<;>rcases hAw with a1 | ⟨a1,a2⟩ | ⟨a1,a2,a3⟩
       all_goals
        go_enter Tryz.func97,Tryz.ntmps97
        go_wp2_with fail
        refine (hblk _).mono ?_
        rintro e w' ⟨rfl,rfl⟩
        go_wp2_with fail
        refine (hsg _).mono ?_
        rintro e w' ⟨rfl,rfl⟩
        go_wp2_with fail
        refine bodyPost_ret (v:=.agg #[.int .i64 7,.int .i64 r,.int .i64 0,.string ⟨#[]⟩,.slice none 0 0]) (by simp[results,Tryz.results97,go_sem]) rfl ⟨.slice none 0 0,?_,?_,World.ownsRow_nil _ _ _ _⟩
        ·rfl
        ·exact za1 _ _
      | true=>
       have hT:Thk.tokL (s[r]::s.data.toList.drop (r+1))=Thk.nameT (s.data.toList.drop r):=by
        simp only[Thk.tokL]
        rw[if_pos hL,zay s r hlt]
       rw[hT]
       have hle:=letN_le (s.data.toList.drop r)
       have hx:=zbM s r (Thk.letN (s.data.toList.drop r))
       rw[List.length_drop,show s.data.toList.length=s.size from rfl] at hle
       have t60:((s[r].toNat:Int) == 60)=false:=zaj (let_not hL).1 60 rfl
       have hl:=(zdJ _).1 hL
       have l1:¬ (s[r].toNat:Int)<97:=by omega
       have l2:¬ (122:Int)<s[r].toNat:=by omega
       obtain⟨N,hN⟩:∃ N,N=Thk.letN (s.data.toList.drop r):=⟨_,rfl⟩
       obtain⟨T,hTT⟩:∃ T,T=Thk.nameT (s.data.toList.drop r):=⟨_,rfl⟩
       have hT1 : 12<N→T=Thk.badT:=by intro h;rw[hTT];unfold Thk.nameT;rw[← hN,if_pos h]
       have hT2:N≤12→T=⟨.name,0,N,(s.data.toList.drop r).take N,[]⟩:=by intro h;rw[hTT];unfold Thk.nameT;rw[← hN,if_neg (by omega)]
       rw[← hN] at hle hx
       rw[← hTT]
       have HT1:Hid (12<N→T=Thk.badT):=hT1
       have HT2:Hid (N≤12→T=⟨.name,0,N,(s.data.toList.drop r).take N,[]⟩):=hT2
       have HN:Hid (N=Thk.letN (s.data.toList.drop r)):=hN
       have HX:Hid (s.extract r (r+N)=⟨((s.data.toList.drop r).take N).toArray⟩):=hx
       clear hN hx hTT hT1 hT2 hS h39 h91 hT hAL hA hL hl hAw
       go_enter Tryz.func97,Tryz.ntmps97
       go_wp2_with fail
       refine (hblk _).mono ?_
       rintro e w' ⟨rfl,rfl⟩
       go_wp2_with fail
       refine (hsg _).mono ?_
       rintro e w' ⟨rfl,rfl⟩
       go_wp2_with fail
       go_loop [7] (fun i=>∃ j:Nat,j≤N∧i = .int .i64 ↑(r+j)∧Hid (N=j+Thk.letN (s.data.toList.drop (r+j)))) (fun i=>s.size - (intOf i).toNat)
       case atStart=>exact⟨0,Nat.zero_le _,rfl,by rw[Nat.zero_add,Nat.add_zero];exact HN⟩
       case round=>
        obtain⟨j,hj,rfl,hH⟩:=hrel
        by_cases hc:∃ hlt:r+j<s.size,Thk.isLet s[r+j]=true
        ·obtain⟨hltj,hc⟩:=hc
         have h1:j+1≤N∧Hid (N=(j+1)+Thk.letN (s.data.toList.drop (r+(j+1)))):=by
          have h:=hH.out
          rw[zay s (r+j) hltj] at h
          simp only[Thk.letN,hc,if_true] at h
          exact⟨by omega,show _=_ by rw[show r+(j+1)=r+j+1 from rfl];omega⟩
         have hl:=(zdJ _).1 hc
         have m1:(97:Int)≤s[r+j].toNat:=by omega
         have m2:(s[r+j].toNat:Int)≤122:=by omega
         clear hc hl
         go_wp2_with fail
         go_round
         case rel=>exact⟨j+1,h1.1,by go_num,h1.2⟩
         case measure=>simp[intOf];omega
        ·have h1:j=N:=by
          have h:=hH.out
          by_cases hltj:r+j<s.size
          ·have hc':Thk.isLet s[r+j]=false:=by
            cases hx:Thk.isLet s[r+j] with
            | false=>rfl
            | true=>exact absurd ⟨hltj,hx⟩ hc
           rw[zay s (r+j) hltj] at h
           simp[Thk.letN,hc'] at h
           exact h.symm
          ·rw[zaX s (r+j) (by omega)] at h
           simpa [Thk.letN] using h.symm
         have hcw:¬ r+j<s.size∨(∃ h:r+j<s.size,(97:Int)≤s[r+j].toNat∧¬ (s[r+j].toNat:Int)≤122)∨(∃ h:r+j<s.size,¬ (97:Int)≤s[r+j].toNat):=by
          by_cases hltj:r+j<s.size
          ·have hc':¬ (97≤s[r+j].toNat∧s[r+j].toNat≤122):=by rw[← zdJ];intro h;exact hc ⟨hltj,h⟩
           by_cases h97 : 97≤s[r+j].toNat
           ·exact .inr (.inl ⟨hltj,by omega,by omega⟩)
           ·exact .inr (.inr ⟨hltj,by omega⟩)
          ·exact .inl hltj
         clear hc hH
         subst h1
         have hrj:r+j≤s.size:=by omega
         by_cases h12 : 12<j
         ·have e1:=HT1.out h12
          subst e1
          clear HT1 HT2 HX HN
          rcases hcw with q1 | ⟨q1,q2,q3⟩ | ⟨q1,q2⟩
          all_goals
           go_wp2_with fail
           refine bodyPost_ret (v:=.agg #[.int .i64 7,.int .i64 r,.int .i64 0,.string ⟨#[]⟩,.slice none 0 0]) (by simp[results,Tryz.results97,go_sem]) rfl ⟨.slice none 0 0,?_,?_,World.ownsRow_nil _ _ _ _⟩
           ·rfl
           ·exact za1 _ _
         ·have e1:=HT2.out (by omega)
          subst e1
          rcases hcw with q1 | ⟨q1,q2,q3⟩ | ⟨q1,q2⟩
          all_goals
           go_wp2_with fail
           refine bodyPost_ret (v:=.agg #[.int .i64 1,.int .i64 r,.int .i64 ↑(r+j),.string (s.extract r (r+j)),.slice none 0 0]) (by simp[results,Tryz.results97,go_sem]) rfl ⟨.slice none 0 0,?_,?_,World.ownsRow_nil _ _ _ _⟩
           ·rw[HX.out];rfl
           ·exact za1 _ _
 ·rw[zaX s r (by omega)]
  have hrr:r=s.size:=by omega
  subst hrr
  go_enter Tryz.func97,Tryz.ntmps97
  go_wp2_with fail
  refine (hblk _).mono ?_
  rintro e w' ⟨rfl,rfl⟩
  go_wp2_with fail
  refine bodyPost_ret (v:=.agg #[.int .i64 6,.int .i64 s.size,.int .i64 0,.string ⟨#[]⟩,.slice none 0 0]) (by simp[results,Tryz.results97,go_sem]) rfl ⟨.slice none 0 0,?_,?_,World.ownsRow_nil _ _ _ _⟩
  ·rfl
  ·exact za1 _ _
end Go.Proofs.YtiganlkabilblaaGreatDoor
