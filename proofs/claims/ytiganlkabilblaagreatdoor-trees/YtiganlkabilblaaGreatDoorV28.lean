import Derived.Test.YtiganlkabilblaaGreatDoorV27
import Derived.Test.YtiganlkabilblaaGreatDoorV18
import Derived.Deep.QuietTactic
import Derived.BigQuiet
import Derived.RegionTactic
import Derived.BigRegion
import Derived.Deep.RegionHeld
set_option linter.all false
set_option maxHeartbeats 64000000
set_option maxRecDepth 100000
namespace Go.Proofs.YtiganlkabilblaaGreatDoor
open Go.RowKit Thk
attribute [local go_sem ↓] Go.wp_at_zero Go.wp_at_succ
theorem zeY (k:Nat) (hT:MakS k):MakC k:=by
  intro w kb mb nb N bx S names A s u h hnm hs hA hk hok hN hw
  obtain⟨vs,⟨hrow,hAr⟩,hts⟩:=hs
  obtain⟨ua,uc,rfl⟩:=za9 hrow
  have hmf:∀ (fn:Fn) (first cap:Array Value) (w:World),(Instr.makeFunc fn first cap).run Tryz.prog w = .ok (.func fn first cap) w:=fun _ _ _ _=>rfl
  have HVL:Hid (s.length=vs.length):=RSeqs.length hts
  obtain⟨i0,hi0,hz0,hz1,hz2⟩:=info_parts Tryz.infoExprF
  have hs0:s≠[]:=by
    rintro rfl
    simp only[Thk.wtC] at hw
    omega
  have hsl:=ze7 s
  have hse:=sumS_eq s hs0
  have hn1:s.length≤500000:=by omega
  have hpos : 0<s.length:=List.length_pos_iff.2 hs0
  have hkl:=za7 h.blk
  have hml:=h.mlt
  have HKB:=hideP h.blk
  have HNM:=hideP hnm
  have HTS:=hideP hts
  have HROW:=hideP hrow
  have HK:=hideP hk
  have HOK:=hideP hok
  have HW:=hideP hw
  have HNN:=hideP hN
  have HSE:=hideP hse
  have H0:=hideP (LpM.start (P:=fun N' ks=>DnC N' names ks (s.take 0)) h (by simp[DnC]))
  clear h hnm hts hrow hAr hk hok hw hN hsl hse hs0
  go_enter Tryz.func119,Tryz.ntmps119
  go_wp2_with fail
  go_loopg [10] s.length (fun m vi wr=>∃ (i:Nat) (a:Option Addr) (c:Nat) (N':List Nd) (y:List (Nat × Nat × Nat)) (ks:List Nat) (S':Nat→Prop),m=s.length - i∧vi = .int .i64 i∧i≤s.length∧Hid (LpM w kb mb nb N bx S (2 * (sumS (s.take i) - i)) (fun N' ks=>DnC N' names ks (s.take i)) i a c wr N' y ks S'))
  case atStart=>exact⟨0,none,0,N,[],[],S,by omega,rfl,by omega,H0⟩
  case round=>
    obtain⟨i,a,c,N',y,ks,S',rfl,rfl,hi,HI⟩:=hrel
    have hsr:=HI.out.kp.size
    have hbl:=za7 HI.out.box
    have b0:wr.cell? ⟨w.heap.size,0,none⟩=some (.slice a i c):=za0 HI.out.box 0
    by_cases hlt:i<s.length
    · have hlt':(i:Int)<s.length:=by omega
      have hjv:i<vs.length:=by have:=HVL.out;omega
      obtain⟨g,hua,hcs,hgl⟩:=zbr HROW.out (by omega)
      subst hua
      have hgk:g≠kb:=row_ne HKB.out (by decide) HROW.out rfl
      have hbg:wr.heap[g]? = w.heap[g]? := HI.out.kp.block g hgl (by simpa using hgk)
      have c0 : wr.cell? ⟨g, i, none⟩ = some (vs[i]'hjv) := by rw [World.cell?_of_block (a := ⟨g, _, none⟩) hbg, hcs _ (by omega)]; exact List.getElem?_eq_getElem hjv
      have htr:=RSeqs.get HTS.out i hlt hjv
      have hst:=sumS_take s i hlt
      have hsle:=sumS_le s (i+1)
      have hlen1:i≤sumS (s.take i):=by have:=ze7 (s.take i);rw[List.length_take] at this;omega
      have HPC : Hid (∀ X, Below wr.heap.size wr X → Calls Tryz.prog 149 #[ptrV kb, vs[i]'hjv] X (Mak kb mb nb N' (bx ++ y) S' (2 * wtS s[i]) (fun N2 n => ∃ ks, N2[n]? = some (.seq ks) ∧ DnS N2 names ks s[i]) X)) := hideP (fun X hX => by
        have hu:=HI.out.upTo hX
        have hcn:=HI.out.cnt
        have hse:=HSE.out
        have hnn:=HNN.out
        have hww:=HW.out
        exact hT X kb mb nb N' (bx ++ y) S' names A s[i] (vs[i]'hjv) (HI.out.mkr.below hX) (HNM.out.up HKB.out hu) (RSeq.kept (sm_up HKB.out hu hA) htr) hA (Nat.le_trans (zcn s i hlt) HK.out) (okC_get HOK.out i hlt) (by omega) (by omega))
      have HGO : Hid (∀ X w1 N2 y2 n x S2 w5 va vc O, Below wr.heap.size wr X → x = ((bx ++ y) ++ y2).getD n (0, 0, 0) → n < N2.length → Mk w1 kb mb nb N2 ((bx ++ y) ++ y2) S2 → Goes N' N2 → N2.length ≤ N'.length + 2 * wtS s[i] → (∃ ks, N2[n]? = some (.seq ks) ∧ DnS N2 names ks s[i]) → KpM [kb] X.heap.size X w1 → GrS X S' S2 →
          w5.ownsRow (w.heap.size+1) 226 1 (.slice (some ⟨va,0,none⟩) (i+1) vc) (i+1) (ks.map (clV ((bx++y)++y2))++[cloV x])→(w1.alloc O).grownBy w5 (Value.slice a i c).ownBlock→((Value.slice a i c).ownBlock=some va∨va=w1.heap.size+1) →
          Hid (LpM w kb mb nb N bx S (2 * (sumS (s.take (i+1)) - (i+1))) (fun N' ks=>DnC N' names ks (s.take (i+1))) (i+1) (some ⟨va,0,none⟩) vc (w5.setCell ⟨w.heap.size,0,none⟩ (.slice (some ⟨va,0,none⟩) (i+1) vc)) N2 (y++y2) (ks++[n]) S2)):=hideP (fun X w1 N2 y2 n x S2 w5 va vc O hX hx hn h1 hg hl hd hK hS hown hgrow hat=>by
        have hC:=HI.out.call hkl HKB.out hX h1 hg hl hK hS (DnC.goes hg _ HI.out.ok) (HI.out.lenLe h1)
        rw[List.append_assoc] at hx hown
        obtain⟨kq,hd1,hd2⟩:=hd
        have hP:=LpM.put (P':=fun N' ks=>DnC N' names ks (s.take (i+1))) hC hkl hx hn (by rw[List.take_succ_eq_append_getElem hlt];exact hC.ok.snoc hd1 hd2) hown hgrow (by
          rcases hat with e | e
          · exact .inl e.symm
          · exact .inr (by rw[e];simp[Value.ownBlock]))
        exact hideP (hP.wt (by omega)))
      have HC1:Hid (∀ X w1 N2 y2 S2,Below wr.heap.size wr X→Mk w1 kb mb nb N2 ((bx++y)++y2) S2→Goes N' N2→N2.length≤N'.length+2 * wtS s[i]→KpM [kb] X.heap.size X w1→GrS X S' S2→w1.heap[w.heap.size]? = some (boxO (.slice a i c) 175)∧w1.ownsRow (w.heap.size+1) 226 1 (.slice a i c) i (ks.map (clV ((bx++y)++y2)))):=hideP (fun X w1 N2 y2 S2 hX h1 hg hl hK hS=>by
        have hC:=HI.out.call hkl HKB.out hX h1 hg hl hK hS (DnC.goes hg _ HI.out.ok) (HI.out.lenLe h1)
        have hr:=hC.row
        rw[← List.append_assoc] at hr
        exact⟨hC.box,hr⟩)
      obtain ⟨tt, xx, hvx⟩ : ∃ t x, vs[i]'hjv = .slice t s[i].length x := by
        obtain⟨_,hr,_⟩:=htr
        exact za9 hr.1
      rw[hvx] at c0
      rw[hvx] at HPC
      have HBN:Hid (some w.heap.size≠(Value.slice a i c).ownBlock):=hideP (fun e=>by have:=(HI.out.row.lt _ e.symm).1;omega)
      have HML:Hid (i+1≤maxLen):=by show _≤_;unfold maxLen;omega
      have hkr:kb≠wr.heap.size:=by omega
      generalize s[i].length=cl at *
      clear htr hvx hst hsle hcs hbg hgk
      go_wp2_with fail
      have HN:Hid (∀ (w1 w5:World) (O:Obj),(w1.alloc O).grownBy w5 (Value.slice a i c).ownBlock→w1.heap[w.heap.size]? = some (boxO (.slice a i c) 175)→w5.heap[w.heap.size]? = some (boxO (.slice a i c) 175)):=hideP (fun w1 w5 O hg hb=>by
        have hl:=za7 hb
        rw[hg.block _ (by simp;omega) HBN.out,za5 _ _ hl];exact hb)
      have HPV:Hid (∀ X,Below wr.heap.size wr X→Calls Tryz.prog 149 #[ptrV kb,.slice tt cl xx] X fun e w'=>∃ v,e = .returned v∧∃ N2 y2 n x S2,v=cloV x∧x=((bx++y)++y2).getD n (0,0,0)∧n<N2.length∧Mk w' kb mb nb N2 ((bx++y)++y2) S2∧Goes N' N2∧N2.length≤N'.length+2 * wtS s[i]∧(∃ ks,N2[n]? = some (.seq ks)∧DnS N2 names ks s[i])∧KpM [kb] X.heap.size X w'∧GrS X S' S2):=hideP (fun X hX=>(HPC.out X hX).mono (by
        rintro e w' ⟨N2,y2,n,x,S2,rfl,h⟩
        exact⟨_,rfl,N2,y2,n,x,S2,rfl,h⟩))
      go_region_law
        (first
          | (refine step_call (by rfl) 149 #[ptrV kb,.slice tt cl xx] (by go_simp) (HPV.out _ ((Below.refl wr.heap.size wr).drew)) ?_;rintro _ w1 ⟨N2,y2,n,x,S2,rfl,hx,hn,h1,hg,hl,hd,hK,hS⟩;have HX:=hideP hx;have HC:=hideP (HC1.out _ w1 N2 y2 S2 ((Below.refl wr.heap.size wr).drew) h1 hg hl hK hS);have s1:=za0 HC.out.1 0;have hlt1:=za3 HC.out.1;have HM1:=hideP h1;have HG:=hideP hg;have HL:=hideP hl;have HD:=hideP hd;have HKK:=hideP hK;have HSS:=hideP hS;have HNN2:=hideP hn;clear hx h1 hg hl hd hK hS hn)
          | (refine step_append_lies _ (by rfl) _ _ _ (by rfl) (w.heap.size+1) 226 i0 _ 1 8 Tryz.underlying175 hi0 hz0 hz1 hz2 (by rfl) (by decide) _ _ _ (by rfl) (HC.out.2.alloc _) ⟨w1.heap.size,0,none⟩ 1 1 [cloV x] (by rfl) (by rfl) (World.news_of_block (za4 w1 _)) (by intro u hu;simp at hu;subst hu;rfl) (by decide) HML.out (by omega) (by simp;omega) (w1.heap.size+1) (by simp) ?_;intro g2 cap2 w6 hown1 hgrow hat hlt3;have t1:=grownC hgrow s1 HBN.out;have f1:=za2 (HN.out _ _ _ hgrow HC.out.1) 0;have hlt6:=za3 (HN.out _ _ _ hgrow HC.out.1);have HF:=HGO.out _ w1 N2 y2 n x S2 w6 g2 cap2 _ ((Below.refl wr.heap.size wr).drew) HX.out HNN2.out HM1.out HG.out HL.out HD.out HKK.out HSS.out hown1 hgrow hat;clear hown1 hgrow hat))
      all_goals go_wp2_with fail
      all_goals
        go_roundg (s.length - (i+1))
        case measure=>omega
        case rel=>exact⟨i+1,_,_,_,_,_,_,rfl,by go_num,by omega,HF⟩
    · have hlt':¬ (i:Int)<s.length:=by omega
      have hie:i=s.length:=by omega
      have HCL:=hideP (HI.out.choice hml hkl (by have:=HI.out.cnt;have:=HNN.out;have:=sumS_le s i;have:=HSE.out;omega) (by omega))
      have HEND:Hid (∀ (w':World) (x:Nat × Nat × Nat) (S2:Nat→Prop),Mk w' kb mb nb (N'++[Nd.choice ks]) (bx++(y++[x])) S2→KpM [kb] w.heap.size w w'→GrS w S S2→Mak kb mb nb N bx S (2 * wtC s) (fun N' n=>DnP N' names n (.group s)) w (.returned (cloV x)) w'):=hideP (fun w' x S2 h1 h2 h3=>by
        have hc:=HI.out.cnt
        have hsl:=sumS_le s i
        have hlen1:i≤sumS (s.take i):=by have:=ze7 (s.take i);rw[List.length_take] at this;omega
        have hse:=HSE.out
        have hok:=HI.out.ok
        rw[hie,List.take_of_length_le (Nat.le_refl _)] at hok
        refine⟨N'++[Nd.choice ks],y++[x],N'.length,x,S2,rfl,?_,by simp,h1,HI.out.goes.trans (Goes.app _ _),by simp;omega,?_,h2,h3⟩
        · rw[← List.append_assoc,List.getD_eq_getElem?_getD,List.getElem?_append_right (by rw[HI.out.mkr.len];exact Nat.le_refl _),HI.out.mkr.len,Nat.sub_self];rfl
        · simp only[DnP]
          exact⟨ks,zcw _ _,DnC.goes (Goes.app _ _) _ hok⟩)
      clear b0
      go_wp2_with fail
      refine HCL.out.mono ?_
      rintro _ w6 ⟨x,S2,rfl,h1,h2,h3⟩
      have HZ:=hideP (HEND.out w6 x S2 h1 h2 h3)
      clear h1 h2 h3
      go_wp2_with fail
      go_ret
      exact HZ.out
theorem make_all (k:Nat):MakC k:=by
 induction k using Nat.strongRecOn with
 | ind k ih=>exact zeY k (sequence_step k (term_step k (item_step k (zfe k ih))))
theorem choiceOf_any (w:World) (kb mb nb:Nat) (N:List Nd) (bx:List (Nat × Nat × Nat)) (S:Nat→Prop) (names:List Bytes) (A:Nat→Prop) (c:List (List Term)) (u:Value) (h:Mk w kb mb nb N bx S) (hm:MapIs w nb names) (hc:RChoice w A c u) (hA:∀ g,A g→g≠kb) (hok:okC c) (hN:N.length+2 * wtC c≤100000000) (hw:wtC c≤500000) :
  Calls Tryz.prog 119 #[ptrV kb,u] w (Mak kb mb nb N bx S (2 * wtC c) (fun N' n=>DnP N' names n (.group c)) w):=
 make_all (depC c) w kb mb nb N bx S names A c u h hm hc hA (Nat.le_refl _) hok hN hw
def sumR:List Rule→Nat
 | []=>0
 | r::g=>wtC r.choice+sumR g
theorem sumR_app:∀ (a b:List Rule),sumR (a++b)=sumR a+sumR b
 | [],b=>by simp[sumR]
 | r::a,b=>by have:=sumR_app a b;simp only[List.cons_append,sumR];omega
theorem sumR_take (g:List Rule) (i:Nat) (h:i<g.length):sumR (g.take (i+1))=sumR (g.take i)+wtC g[i].choice:=by
 rw[List.take_succ_eq_append_getElem h,sumR_app];simp[sumR]
theorem sumR_le:∀ (g:List Rule),(∀ r ∈ g,wtC r.choice≤500000)→sumR g≤g.length * 500000
 | [],_=>by simp[sumR]
 | r::g,h=>by
  have h1:=sumR_le g (fun x hx=>h x (List.mem_cons_of_mem _ hx))
  have h2:=h r (List.mem_cons_self ..)
  simp only[sumR,List.length_cons];omega
theorem KpM.belowOf {rbs:List Nat} {B:Nat} {w w':World} (h:KpM rbs w.heap.size w w') (hr:∀ b ∈ rbs,B≤b) (hB:B≤w.heap.size):Below B w w':=⟨h.os,h.tape,h.output,h.size,fun k hk=>h.block k (by omega) (fun hb=>by have:=hr k hb;omega)⟩
structure MkL (w:World) (kb mb nb rb:Nat) (g:List Rule) (names:List Bytes) (i:Nat) (wr:World) (N:List Nd) (bx:List (Nat × Nat × Nat)) (S:Nat→Prop) (rs:List Nat):Prop where
 mkr:Mk wr kb mb nb N bx S
 cnt:N.length≤2 * sumR (g.take i)
 len:rs.length=i
 dn:∀ j (h:j<rs.length) (h2:j<g.length),DnP N names rs[j] (.group g[j].choice)
 lt:∀ k ∈ rs,k<N.length
 mat:wr.heap[mb]? = some (matO (.slice (some ⟨rb,0,none⟩) g.length g.length) ⟨#[]⟩ (.map none) .nilIface)
 row:∃ cur:Array Value,wr.heap[rb]? = some (.cells cur 226 (0,0))∧cur.size=g.length∧∀ j (h:j<rs.length),cur[j]? = some (clV bx rs[j])
 nr:¬ S rb
 nm:¬ S mb
 bel:Below w.heap.size w wr
 gr:∀ b,S b→w.heap.size≤b∨SpanB w b
theorem MkL.next {w wr X w1:World} {kb mb nb rb:Nat} {g:List Rule} {names:List Bytes} {i:Nat} {N N2:List Nd} {bx y:List (Nat × Nat × Nat)} {S S2:Nat→Prop} {rs:List Nat} {n:Nat} {x:Nat × Nat × Nat} (h:MkL w kb mb nb rb g names i wr N bx S rs) (hi:i<g.length) (hkb:w.heap.size≤kb) (hmb:w.heap.size≤mb) (hrb:w.heap.size≤rb) (hne:rb≠mb) (hkr:kb≠rb) (hkm:kb≠mb)
  (hX:Below wr.heap.size wr X) (hx:x=(bx++y).getD n (0,0,0)) (hn:n<N2.length) (h1:Mk w1 kb mb nb N2 (bx++y) S2) (hg:Goes N N2) (hl:N2.length≤N.length+2 * wtC g[i].choice) (hd:DnP N2 names n (.group g[i].choice)) (hK:KpM [kb] X.heap.size X w1) (hS:GrS X S S2) :
  MkL w kb mb nb rb g names (i+1) (w1.setCell ⟨rb,i,none⟩ (cloV x)) N2 (bx++y) S2 (rs++[n]):=by
 have hXs:=hX.size
 have hKs:=hK.size
 have hlen:=h.len
 have hws:=h.bel.size
 obtain⟨cur,hcb,hcs,hcc⟩:=h.row
 have hrl:=za7 hcb
 have hml:=za7 h.mat
 have hkl:=za7 h.mkr.blk
 have hr1:w1.heap[rb]? = some (.cells cur 226 (0,0)):=by rw[hK.block rb (by omega) (by simp;omega),hX.block rb hrl];exact hcb
 have hm1:w1.heap[mb]? = some (matO (.slice (some ⟨rb,0,none⟩) g.length g.length) ⟨#[]⟩ (.map none) .nilIface):=by rw[hK.block mb (by omega) (by simp;omega),hX.block mb hml];exact h.mat
 have hnl:N.length≤N2.length:=by have e1:=h.mkr.len;have e2:=h1.len;rw[List.length_append] at e2;omega
 have hnr:¬ S2 rb:=by
  intro hs
  rcases hS _ hs with h' | h' | ⟨cu,h'⟩
  ·exact h.nr h'
  ·omega
  ·rw[hX.block rb hrl,hcb] at h';simp at h'
 have hnm:¬ S2 mb:=by
  intro hs
  rcases hS _ hs with h' | h' | ⟨cu,h'⟩
  ·exact h.nm h'
  ·omega
  ·rw[hX.block mb hml,h.mat] at h';simp at h'
 have hsz:(w1.setCell ⟨rb,i,none⟩ (cloV x)).heap.size=w1.heap.size:=by simp[World.setCell]
 refine⟨h1.same (by omega) (fun b hb=>Below.heap_setCell _ _ _ _ (fun e=>by subst e;exact hnr hb)) (Below.heap_setCell _ _ _ _ (by simpa using hkr)),?_,by simp[hlen],?_,?_,?_,?_,hnr,hnm,?_,?_⟩
 ·have:=h.cnt;rw[sumR_take g i hi];omega
 ·intro j hj h2
  by_cases hji:j<rs.length
  ·rw[List.getElem_append_left hji]
   exact DnP.goes hg _ (h.dn j hji h2)
  ·have:j=i:=by simp at hj;omega
   subst this
   rw[List.getElem_append_right (by omega)]
   simpa using hd
 ·intro k hk
  rcases List.mem_append.1 hk with hk | hk
  ·exact Nat.lt_of_lt_of_le (h.lt k hk) hnl
  ·simp at hk;subst hk;exact hn
 ·rw[Below.heap_setCell _ _ _ _ (by simpa using fun e:mb=rb=>hne e.symm)];exact hm1
 ·refine⟨cur.setIfInBounds i (cloV x),by rw[za6 hr1],by simpa using hcs,?_⟩
  intro j hj
  by_cases hji:j<rs.length
  ·rw[List.getElem_append_left hji,Array.getElem?_setIfInBounds_ne (by omega),hcc j hji,zbv (by rw[h.mkr.len];exact h.lt _ (List.getElem_mem hji))]
  ·have:j=i:=by simp at hj;omega
   subst this
   rw[List.getElem_append_right (by omega),Array.getElem?_setIfInBounds_self_of_lt (by omega)]
   simp[clV,hx,hlen]
 ·refine (h.bel.trans (hX.mono hws)).trans ((hK.belowOf (B:=w.heap.size) (by simpa using hkb) (by omega)).trans ?_)
  exact (Below.refl _ _).setCell (p:=⟨rb,i,none⟩) hrb _
 ·intro b hb
  rcases hS _ hb with h' | h' | ⟨cu,h'⟩
  ·exact h.gr b h'
  ·exact .inl (by omega)
  ·rcases Nat.lt_or_ge b w.heap.size with hl | hl
   ·exact .inr ⟨cu,by rw[← h.bel.block b hl,← hX.block b (by omega)];exact h'⟩
   ·exact .inl hl
structure Mted (w:World) (mb:Nat) (N:List Nd) (bx:List (Nat × Nat × Nat)) (rules:List Nat) (vr:Value) (S:Nat→Prop):Prop where
 nm:¬ S mb
 lt:∀ b,S b→b<w.heap.size
 mlt:mb<w.heap.size
 mde:∀ w':World,w.heap.size≤w'.heap.size→(∀ b,S b→w'.heap[b]? = w.heap[b]?)→(∃ sv tv nv,w'.heap[mb]? = some (.cells #[vr,sv,tv,nv] 177 (0,0)))→Mde w' mb N bx rules vr
theorem MkL.mat' {w wr:World} {kb mb nb rb:Nat} {g:List Rule} {names:List Bytes} {N:List Nd} {bx:List (Nat × Nat × Nat)} {S:Nat→Prop} {rs:List Nat} (h:MkL w kb mb nb rb g names g.length wr N bx S rs) (hne:rb≠mb):Mted wr mb N bx rs (.slice (some ⟨rb,0,none⟩) g.length g.length) (fun b=>S b∨b=rb):=by
 obtain⟨cur,hcb,hcs,hcc⟩:=h.row
 refine⟨?_,?_,za7 h.mat,?_⟩
 ·rintro (h' | h')
  ·exact h.nm h'
  ·exact hne h'.symm
 ·rintro b (h' | rfl)
  ·exact h.mkr.lt b h'
  ·exact za7 hcb
 ·intro w' hs hg hm
  have hc:=h.mkr.clo w' hs (fun b hb=>hg b (.inl hb))
  refine⟨fun n d hn=>?_,?_,hm⟩
  ·obtain⟨_,iv,e1,e2,e3,e4⟩:=hc n d hn
   exact⟨iv,e1,e2,e3,e4⟩
  ·refine⟨rb,g.length,by rw[h.len],Nat.lt_of_lt_of_le (za7 hcb) hs,hne,fun j hj=>?_⟩
   simp only[World.cell?]
   rw[hg rb (.inr rfl),hcb]
   exact hcc j hj
end Go.Proofs.YtiganlkabilblaaGreatDoor
namespace Go.Proofs.YtiganlkabilblaaGreatDoor
open Thk
def SeqR (xs:List RE) (RT:Nat→Bytes→Prop) (q:Nat) (ss:List Bytes):Prop:=∃ ks,xs[q]? = some ⟨5,[],[],0,ks⟩∧AllR RT ks ss
theorem AllR.sg {xs:List RE} {RT:Nat→Bytes→Prop} {qs:List Nat} {c:List (List Bytes)} (h:AllR (SeqR xs RT) qs c):qs.length=c.length:=h.len.symm
end Go.Proofs.YtiganlkabilblaaGreatDoor
namespace Go.Proofs.YtiganlkabilblaaGreatDoor
open Go.RowKit
def GOk (g:List Thk.Rule):Prop:=∀ r ∈ g,Thk.wtC r.choice≤500000∧r.name.length≤20
theorem PAll.gok {l:List UInt8} {g:List Thk.Rule} {E:List Bool} (h:PAll l (.ok (g,E))):GOk g:=by
 cases h with
 | ok h _=>
  cases h with
  | read hl hg=>exact Thk.gram_wt hg hl
end Go.Proofs.YtiganlkabilblaaGreatDoor
namespace Go.Proofs.YtiganlkabilblaaGreatDoor
open Go.RowKit Thk
attribute [local go_sem ↓] Go.wp_at_zero Go.wp_at_succ
theorem make_exprs (n:Nat) (hn:n≤20) (w:World):∃ cur:Array Value,cur.size=n∧(Instr.makeSlice 175 (.int .i64 n) (.int .i64 n)).run Tryz.prog w = .ok (.slice (some ⟨w.heap.size,0,none⟩) n n) (w.alloc (.cells cur 226)):=by
 obtain⟨i0,hi,hz0,hz1,hz2⟩:=info_parts Tryz.infoExprF
 refine⟨madeCells (Value.nilFunc).cells (((n:Nat):Int).toNat * i0.size),?_,?_⟩
 ·rw[size_madeCells,hz1];simp
 ·have h:=run_make (P:=Tryz.prog) w 175 226 i0 _ Tryz.underlying175 hi hz0 .i64 .i64 (n:Int) (n:Int) (by omega) (by omega) (by rw[hz2];omega) (by omega)
  simpa using h
theorem farC {w:World} {a:Addr} {v u:Value} {b o:Nat} (h:w.cell? a=some v) (hne:a.block≠b):(w.setCell ⟨b,o,none⟩ u).cell? a=some v:=by
 rw[World.cell?_of_block (a:=a) (Below.heap_setCell w ⟨b,o,none⟩ u a.block hne)];exact h
def MadePost (g:List Rule) (w:World) (e:Ending) (w':World):Prop:=∃ mb N bx rs vr S,e = .returned (ptrV mb)∧Mted w' mb N bx rs vr S∧w'.heap[mb]? = some (matO vr ⟨#[]⟩ (.map none) .nilIface)∧DnR N rs g∧Below w.heap.size w w'∧w.heap.size≤mb∧∀ b,S b→w.heap.size≤b∨SpanB w b
theorem mkl_start {w:World} {nb:Nat} {g:List Rule} {names:List Bytes} {cur:Array Value} (hc:cur.size=g.length):MkL w (w.heap.size+1+1) (w.heap.size+1) nb w.heap.size g names 0 (((w.alloc (.cells cur 226 (0,0))).alloc (matO (.slice (some ⟨w.heap.size,0,none⟩) g.length g.length) ⟨#[]⟩ (.map none) .nilIface)).alloc (makO (w.heap.size+1) (.map (some nb)) 0)) [] [] (fun _=>False) []:=by
 refine⟨⟨zdd w _ _ _,by simp,rfl,fun h=>h,fun _ h=>h.elim,fun _ _ _ n d hn=>by simp at hn⟩,by simp,rfl,by simp,by simp,zdb w _ _ _,⟨cur,zda w _ _ _,hc,by simp⟩,fun h=>h,fun h=>h,zar w _ _ _,fun _ h=>h.elim⟩
theorem make_any (w:World) (A:Nat→Prop) (g:List Rule) (ga:Addr) (gc nb:Nat) (h:RGram w A g (.slice (some ga) g.length gc)) (hm:MapIs w nb (za8 g)) (hgok:GOk g) (hok:∀ r ∈ g,okC r.choice) (hl:g.length≤20) :
  Calls Tryz.prog 82 #[.slice (some ga) g.length gc,.map (some nb)] w (MadePost g w):=by
 obtain⟨cur,hcs,hmk⟩:=make_exprs g.length hl w
 have HG:=hideP h
 have HM:=hideP hm
 have HGOK:=hideP hgok
 have HOK:=hideP hok
 have HSR:=hideP (sumR_le g (fun r hr=>(hgok r hr).1))
 have H0:=hideP (mkl_start (w:=w) (nb:=nb) (g:=g) (names:=za8 g) hcs)
 clear h hm hgok hok hcs
 go_enter Tryz.func82,Tryz.ntmps82
 go_wp2_with fail
 go_loopg [17] g.length (fun m vi wr=>∃ (i:Nat) (N:List Nd) (bx:List (Nat × Nat × Nat)) (rs:List Nat) (S:Nat→Prop),m=g.length - i∧vi = .int .i64 i∧i≤g.length∧Hid (MkL w (w.heap.size+1+1) (w.heap.size+1) nb w.heap.size g (za8 g) i wr N bx S rs))
 case atStart=>exact⟨0,[],[],[],fun _=>False,by omega,rfl,by omega,H0⟩
 case round=>
  obtain⟨i,N,bx,rs,S,rfl,rfl,hi,HI⟩:=hrel
  have hsr:=HI.out.bel.size
  by_cases hlt:i<g.length
  ·have hlt':(i:Int)<g.length:=by omega
   obtain⟨gb,ca,cc,rfl,hgbl,_,c0,c1,hch,hnl⟩:=HG.out.at i hlt
   have hgi:=HGOK.out g[i] (List.getElem_mem hlt)
   have hoi:=HOK.out g[i] (List.getElem_mem hlt)
   have c0':wr.cell? ⟨gb,i * 2,none⟩=some (.string ⟨g[i].name.toArray⟩):=by rw[HI.out.bel.cell (p:=⟨gb,_,none⟩) hgbl];exact c0
   have c1':wr.cell? ⟨gb,i * 2+1,none⟩=some (.slice ca g[i].choice.length cc):=by rw[HI.out.bel.cell (p:=⟨gb,_,none⟩) hgbl];exact c1
   have k0:wr.cell? ⟨w.heap.size+1+1,0,none⟩=some (ptrV (w.heap.size+1)):=za0 HI.out.mkr.blk 0
   have m0:wr.cell? ⟨w.heap.size+1,0,none⟩=some (.slice (some ⟨w.heap.size,0,none⟩) g.length g.length):=za0 HI.out.mat 0
   have hkl:=za3 HI.out.mkr.blk
   have HCH:=hideP hch
   have HPC:Hid (∀ X,Below wr.heap.size wr X→Calls Tryz.prog 119 #[ptrV (w.heap.size+1+1),.slice ca g[i].choice.length cc] X (Mak (w.heap.size+1+1) (w.heap.size+1) nb N bx S (2 * wtC g[i].choice) (fun N' n=>DnP N' (za8 g) n (.group g[i].choice)) X)):=hideP (fun X hX=>by
    have hb:Below w.heap.size w X:=HI.out.bel.trans (hX.mono hsr)
    have hcn:=HI.out.cnt
    have hst:=sumR_take g i hlt
    have hsm:sumR (g.take (i+1))≤sumR g:=by
     conv=>rhs;rw[← List.take_append_drop (i+1) g]
     rw[sumR_app];omega
    have hsr:=HSR.out
    exact choiceOf_any X _ _ nb N bx S (za8 g) (fun b=>b<w.heap.size) g[i].choice _ (HI.out.mkr.below hX) (HM.out.below hb) ((HCH.out.mono (fun b hl _=>hl)).kept (zau hb)) (fun b hb=>by omega) hoi (by omega) hgi.1)
   have HGO:Hid (∀ X w1 N2 y n x S2,Below wr.heap.size wr X→x=(bx++y).getD n (0,0,0)→n<N2.length→Mk w1 (w.heap.size+1+1) (w.heap.size+1) nb N2 (bx++y) S2→Goes N N2→N2.length≤N.length+2 * wtC g[i].choice→DnP N2 (za8 g) n (.group g[i].choice)→KpM [w.heap.size+1+1] X.heap.size X w1→GrS X S S2→Hid (MkL w (w.heap.size+1+1) (w.heap.size+1) nb w.heap.size g (za8 g) (i+1) (w1.setCell ⟨w.heap.size,i,none⟩ (cloV x)) N2 (bx++y) S2 (rs++[n]))):=hideP (fun X w1 N2 y n x S2 hX hx hn h1 hg hl hd hK hS=>hideP (HI.out.next hlt (by omega) (by omega) (by omega) (by omega) (by omega) (by omega) hX hx hn h1 hg hl hd hK hS))
   have HKP:Hid (∀ X w1,Below wr.heap.size wr X→KpM [w.heap.size+1+1] X.heap.size X w1→(∃ cur:Array Value,w1.heap[w.heap.size]? = some (.cells cur 226 (0,0))∧cur.size=g.length)∧w1.heap[w.heap.size+1]? = some (matO (.slice (some ⟨w.heap.size,0,none⟩) g.length g.length) ⟨#[]⟩ (.map none) .nilIface)):=hideP (fun X w1 hX hK=>by
    have hXs:=hX.size
    obtain⟨cu,h1,h2,_⟩:=HI.out.row
    have e1:=za7 h1
    have e2:=za7 HI.out.mat
    refine⟨⟨cu,?_,h2⟩,?_⟩
    ·rw[hK.block _ (by omega) (by simp;omega),hX.block _ e1];exact h1
    ·rw[hK.block _ (by omega) (by simp),hX.block _ e2];exact HI.out.mat)
   generalize g[i].name=nm at *
   generalize g[i].choice=ch at *
   generalize hcl:ch.length=cl at *
   clear hch hgi hoi hnl c0 c1 hcl
   go_wp2_with fail
   have hn1:w.heap.size+1+1≠w.heap.size:=by omega
   have hn2:w.heap.size+1≠w.heap.size:=by omega
   have hn3:wr.heap.size≠w.heap.size:=by omega
   have hn4:w.heap.size≠wr.heap.size:=by omega
   have hig:i<g.length:=hlt
   have hsf:∀ (a:Addr) (fn:Fn) (x c:Array Value) (W:World),(store a (.func fn x c)).run Tryz.prog W=stored Tryz.prog W a (.func fn x c) .plain:=fun a fn x c W=>run_store Tryz.prog W a _ _ rfl
   have HW:Hid (∀ w1:World,KpM [w.heap.size+1+1] ((wr.alloc (.cells #[.string ⟨nm.toArray⟩,.slice ca cl cc] 142)).drew).heap.size ((wr.alloc (.cells #[.string ⟨nm.toArray⟩,.slice ca cl cc] 142)).drew) w1→w1.heap[wr.heap.size]? = some (.cells #[.string ⟨nm.toArray⟩,.slice ca cl cc] 142)):=hideP (fun w1 hK=>by
    rw[hK.block wr.heap.size (by show _<(wr.alloc _).heap.size;simp) (by simp;omega)]
    exact za4 _ _)
   go_region_held_law (fun w'=>w'.cell? ⟨w.heap.size+1+1,0,none⟩=some (ptrV (w.heap.size+1))∧w'.cell? ⟨w.heap.size+1,0,none⟩=some (.slice (some ⟨w.heap.size,0,none⟩) g.length g.length)∧w'.cell? ⟨wr.heap.size,1,none⟩=some (.slice ca cl cc)) (first | exact⟨farC q0 hn1,farC q1 hn2,farC q2 hn3⟩ | go_keep)
    (first
     | (go_at_call 119; refine (HPC.out _ ((za1 wr _).drew)).mono ?_; rintro _ w1 ⟨N2, y2, n, x, S2, rfl, hx, hn, h1, hg, hl2, hd, hK, hS⟩; obtain ⟨⟨cu, hcu, hcuz⟩, hma⟩ := HKP.out _ w1 ((za1 wr _).drew) hK; have q0 : w1.cell? ⟨w.heap.size + 1 + 1, 0, none⟩ = some (ptrV (w.heap.size + 1)) := za0 h1.blk 0; have q1 : w1.cell? ⟨w.heap.size + 1, 0, none⟩ = some (.slice (some ⟨w.heap.size, 0, none⟩) g.length g.length) := za0 hma 0; have q2 : w1.cell? ⟨wr.heap.size, 1, none⟩ = some (.slice ca cl cc) := za0 (HW.out w1 hK) 1; have f1 := za2 hcu i; obtain ⟨ov, q3⟩ : ∃ v, w1.cell? ⟨w.heap.size, i, none⟩ = some v := ⟨cu[i]'(by omega), (by rw [za0 hcu i]; exact Array.getElem?_eq_getElem _)⟩; have hl3 := za3 hcu; have hl4 := za3 h1.blk; have hl5 := za3 hma; have HF := HGO.out _ w1 N2 y2 n x S2 ((za1 wr _).drew) hx hn h1 hg hl2 hd hK hS; clear hx h1 hg hl2 hd hK hS hn hcu hma hcuz))
   all_goals go_wp2_with fail
   all_goals
    go_roundg (g.length - (i+1))
    case measure=>omega
    case rel=>exact⟨i+1,_,_,_,_,rfl,by go_num,by omega,HF⟩
  ·have hlt':¬ (i:Int)<g.length:=by omega
   have hie:i=g.length:=by omega
   subst hie
   have k0:wr.cell? ⟨w.heap.size+1+1,0,none⟩=some (ptrV (w.heap.size+1)):=za0 HI.out.mkr.blk 0
   have hkl:=za3 HI.out.mkr.blk
   have HZ:Hid (MadePost g w (.returned (ptrV (w.heap.size+1))) wr):=hideP ⟨w.heap.size+1,N,bx,rs,_,_,rfl,HI.out.mat' (by omega),HI.out.mat,⟨HI.out.len,fun i h1 h2=>HI.out.dn i h2 h1⟩,HI.out.bel,by omega,fun b hb=>by
    rcases hb with hb | rfl
    ·exact HI.out.gr b hb
    ·exact .inl (Nat.le_refl _)⟩
   go_wp2_with fail
   go_ret
   exact HZ.out
end Go.Proofs.YtiganlkabilblaaGreatDoor
