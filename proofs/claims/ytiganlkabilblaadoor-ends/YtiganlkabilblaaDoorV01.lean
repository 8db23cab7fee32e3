import Derived.Test.YtiganlkabilblaaDoorV00
import Derived.Deep.QuietTactic
import Derived.BigQuiet
import Derived.RegionTactic
import Derived.BigRegion
set_option linter.all false
set_option maxHeartbeats 64000000
set_option maxRecDepth 100000
namespace Go.Proofs.YtiganlkabilblaaDoor
open Go.RowKit
theorem zhn (s:ByteArray) (w:World) (hs:s.size≤2000) :
  Calls Tryd.prog 47 #[.string s,.string ⟨#[60,45]⟩] w fun e w'=>e = .returned (.bool (s.data.toList.take 2 == [60,45]))∧w'=w:=by
 by_cases h : 2≤s.size
 ·go_enter Tryd.func47,Tryd.ntmps47
  go_wp2
  go_ret
  refine⟨?_,rfl⟩
  have e1:(s.extract 0 2).toList=s.data.toList.take 2:=by
   rw[show (2:Nat)=0+2 from rfl,Vx];simp
  show Ending.returned (Value.bool ((s.extract 0 2).toList == [60,45]))=_
  rw[e1]
 ·have e1:(s.data.toList.take 2 == [60,45])=false:=by
   rw[beq_eq_false_iff_ne];intro hh
   have:=congrArg List.length hh
   have hl:s.data.toList.length=s.size:=rfl
   simp[hl] at this
   omega
  rw[e1]
  have hd:¬ (2:Int)≤s.size:=by omega
  go_enter Tryd.func47,Tryd.ntmps47
  go_wp2
  go_ret
  exact⟨rfl,rfl⟩
def Vg (w:World) (t:Thk.Tok) (e:Ending) (w':World):Prop:=
 ∃ v,e = .returned (.tuple #[zP t v,.int .i64 t.size])∧Below w.heap.size w w'∧Qr w' w.heap.size v t.spans
theorem zgH (l:List UInt8):(Thk.Ql l).spans=[]:=by unfold Thk.Ql;split<;>rfl
theorem zfU (l:List UInt8):(Thk.Qv l).spans=[]:=by unfold Thk.Qv;split<;>rfl
theorem zgD (s:ByteArray) (k:Nat) (w:World) (hs:s.size≤2000) (hk:k≤s.size) :
  Calls Tryd.prog 46 #[.string s,.int .i64 k] w (Vg w (Thk.Ql (s.data.toList.drop k))):=by
 refine (zgC s k w hs hk).mono ?_
 rintro e w' ⟨rfl,hb⟩
 exact⟨_,rfl,hb,by rw[zgH];exact World.ownsRow_nil _ _ _ _⟩
theorem zfW (s:ByteArray) (k:Nat) (w:World) (hs:s.size≤2000) (hk:k<s.size) :
  Calls Tryd.prog 48 #[.string s,.int .i64 k] w (Vg w (Thk.Qv (s.data.toList.drop (k+1)))):=by
 refine (zfV s k w hs hk).mono ?_
 rintro e w' ⟨rfl,hb⟩
 exact⟨_,rfl,hb,by rw[zfU];exact World.ownsRow_nil _ _ _ _⟩
theorem zeq (s:ByteArray) (k:Nat) (w:World) (hs:s.size≤2000) (hk:k<s.size) :
  Calls Tryd.prog 49 #[.string s,.int .i64 k] w (Vg w (Thk.QB (s.data.toList.drop (k+1)))):=zep s k w hs hk
theorem zdR (w:World):Calls Tryd.prog 51 #[] w (Vg w Thk.zB):=by
 refine (Vp w).mono ?_
 rintro e w' ⟨rfl,hb⟩
 exact⟨_,rfl,hb,World.ownsRow_nil _ _ _ _⟩
abbrev V4:Obj:=.cells #[.int .u8 0,.int .i64 0,.string ⟨#[]⟩,.slice none 0 0] 84
theorem qd {w w1:World} {v:Value} {xs:List Thk.zR} (a b c d:Value) (hb:Below (w.alloc V4).heap.size (w.alloc V4) w1) (hv:Qr w1 (w.alloc V4).heap.size v xs) :
  Below w.heap.size w ((((w1.setCell ⟨w.heap.size,0,none⟩ a).setCell ⟨w.heap.size,1,none⟩ b).setCell ⟨w.heap.size,2,none⟩ c).setCell ⟨w.heap.size,3,none⟩ d) ∧
  Qr ((((w1.setCell ⟨w.heap.size,0,none⟩ a).setCell ⟨w.heap.size,1,none⟩ b).setCell ⟨w.heap.size,2,none⟩ c).setCell ⟨w.heap.size,3,none⟩ d) w.heap.size v xs:=by
 refine⟨((((((Below.refl _ _).alloc (Nat.le_refl _) _).trans (hb.mono (by simp))).setCell (Nat.le_refl _) _).setCell (Nat.le_refl _) _).setCell (Nat.le_refl _) _).setCell (Nat.le_refl _) _,?_⟩
 rw[show (w.alloc V4).heap.size=w.heap.size+1 from by simp] at hv
 exact Zn (ownsRow_setCell_below (ownsRow_setCell_below (ownsRow_setCell_below (ownsRow_setCell_below hv (Nat.lt_succ_self _) _) (Nat.lt_succ_self _) _) (Nat.lt_succ_self _) _) (Nat.lt_succ_self _) _) (Nat.le_succ _)
theorem qc {w w1:World} (hb:Below (w.alloc V4).heap.size (w.alloc V4) w1) :
  (∀ o,w1.cell? ⟨w.heap.size,o,none⟩=(#[.int .u8 0,.int .i64 0,.string ⟨#[]⟩,.slice none 0 0]:Array Value)[o]?)∧(∀ o,w1.frozen? ⟨w.heap.size,o,none⟩=false)∧w.heap.size<w1.heap.size:=by
 obtain⟨h1,h2⟩:=Y3 hb
 refine⟨fun o=>?_,fun o=>?_,?_⟩
 ·rw[h1 _ _ (by simp)];simp
 ·rw[h2 _ _ (by simp)];simp
 ·have:=hb.size;simp at this;omega
theorem zj2 (s:ByteArray) (k:Nat) (h:k<s.size):((s.extract k s.size).data.toList.take 2 == [60,45])=decide (s[k]=60∧(s.data.toList.drop (k+1)).head? = some 45):=by
 rw[UH,Q6 s k h]
 rw[Bool.eq_iff_iff]
 cases s.data.toList.drop (k+1) with
 | nil=>simp
 | cons d t=>simp
theorem ziO (s:ByteArray) (k:Nat):(s.extract k s.size).size≤s.size:=by
 have:(s.extract k s.size).data.toList.length=s.data.toList.length - k:=by rw[UH,List.length_drop]
 have e1:(s.extract k s.size).data.toList.length=(s.extract k s.size).size:=rfl
 have e2:s.data.toList.length=s.size:=rfl
 omega
theorem zjd (s:ByteArray) (k:Nat) (w:World) (hs:s.size≤2000) (hk:k≤s.size) :
  Calls Tryd.prog 30 #[.string s,.int .i64 k] w fun e w'=>Vg w (Thk.zM (s.data.toList.drop k)) e w':=by
 by_cases hlt:k<s.size
 ·have t0:((k:Int) == s.size)=false:=beq_eq_false_iff_ne.2 (by omega)
  have hn:=fun w=>zgD s k w hs hk
  have hl:=fun w=>zfW s k w hs hlt
  have hcl:=fun w=>zeq s k w hs hlt
  have hp:=fun w=>zhn (s.extract k s.size) w (by have:=ziO s k;omega)
  rw[zj2 s k hlt] at hp
  rw[Q6 s k hlt] at hn ⊢
  simp only[Thk.zM]
  by_cases h1:Thk.Qu s[k]=true
  ·rw[if_pos h1]
   generalize Thk.Ql (s[k]::s.data.toList.drop (k+1))=T at *
   clear hl hcl hp
   go_enter Tryd.func30,Tryd.ntmps30
   go_wp2_with (first | (go_at_call 45;refine (YD _ _).mono ?_;rintro e w' ⟨rfl,rfl⟩;rw[h1]) | (go_at_call 46;refine (hn _).mono ?_;rintro e w1 ⟨v,rfl,hb,hv⟩;obtain⟨a0,c0,rfl⟩:=zl hv;obtain⟨q1,q2,q3⟩:=qc hb;simp only[zP]))
   refine bodyPost_ret (v:=.tuple #[zP T (.slice a0 T.spans.length c0),.int .i64 T.size]) (by simp[results,Tryd.results30,go_sem,zP,q1]) rfl ⟨_,rfl,?_⟩
   exact qd _ _ _ _ hb hv
  rw[if_neg h1]
  have h1':Thk.Qu s[k]=false:=by simpa using h1
  clear h1 hn
  by_cases h2:s[k]=60∧(s.data.toList.drop (k+1)).head? = some 45
  ·rw[decide_eq_true h2] at hp
   rw[if_pos h2]
   clear h2 hl hcl
   go_enter Tryd.func30,Tryd.ntmps30
   go_wp2_with (first | (go_at_call 45;refine (YD _ _).mono ?_;rintro e w' ⟨rfl,rfl⟩;rw[h1']) | (go_at_call 47;refine (hp _).mono ?_;rintro e w' ⟨rfl,rfl⟩))
   refine bodyPost_ret (v:=.tuple #[zP ⟨.arrow,0,2,[],[]⟩ (.slice none 0 0),.int .i64 2]) (by simp[results,Tryd.results30,go_sem,zP,zt]) rfl ⟨_,rfl,zc _ _,World.ownsRow_nil _ _ _ _⟩
  rw[decide_eq_false h2] at hp
  rw[if_neg h2]
  clear h2
  by_cases h3:s[k]=39
  ·rw[if_pos h3]
   have t3:=QW h3 39 rfl
   clear h3 hcl
   generalize Thk.Qv (s.data.toList.drop (k+1))=T at *
   go_enter Tryd.func30,Tryd.ntmps30
   go_wp2_with (first | (go_at_call 45;refine (YD _ _).mono ?_;rintro e w' ⟨rfl,rfl⟩;rw[h1']) | (go_at_call 47;refine (hp _).mono ?_;rintro e w' ⟨rfl,rfl⟩) | (go_at_call 48;refine (hl _).mono ?_;rintro e w1 ⟨v,rfl,hb,hv⟩;obtain⟨a0,c0,rfl⟩:=zl hv;obtain⟨q1,q2,q3⟩:=qc hb;simp only[zP]))
   refine bodyPost_ret (v:=.tuple #[zP T (.slice a0 T.spans.length c0),.int .i64 T.size]) (by simp[results,Tryd.results30,go_sem,zP,q1]) rfl ⟨_,rfl,?_⟩
   exact qd _ _ _ _ hb hv
  rw[if_neg h3]
  have t3:=Q3 h3 39 rfl
  clear h3 hl
  by_cases h4:s[k]=91
  ·rw[if_pos h4]
   have t4:=QW h4 91 rfl
   clear h4
   generalize Thk.QB (s.data.toList.drop (k+1))=T at *
   go_enter Tryd.func30,Tryd.ntmps30
   go_wp2_with (first | (go_at_call 45;refine (YD _ _).mono ?_;rintro e w' ⟨rfl,rfl⟩;rw[h1']) | (go_at_call 47;refine (hp _).mono ?_;rintro e w' ⟨rfl,rfl⟩) | (go_at_call 49;refine (hcl _).mono ?_;rintro e w1 ⟨v,rfl,hb,hv⟩;obtain⟨a0,c0,rfl⟩:=zl hv;obtain⟨q1,q2,q3⟩:=qc hb;simp only[zP]))
   refine bodyPost_ret (v:=.tuple #[zP T (.slice a0 T.spans.length c0),.int .i64 T.size]) (by simp[results,Tryd.results30,go_sem,zP,q1]) rfl ⟨_,rfl,?_⟩
   exact qd _ _ _ _ hb hv
  rw[if_neg h4]
  have t4:=Q3 h4 91 rfl
  clear h4 hcl
  by_cases h5:Thk.Qf s[k]=true
  ·rw[if_pos h5]
   have hi:=fun w=>za5 ⟨#[47,38,33,63,42,43,40,41,46]⟩ s[k] w h5
   clear h5
   go_enter Tryd.func30,Tryd.ntmps30
   go_wp2_with (first | (go_at_call 45;refine (YD _ _).mono ?_;rintro e w' ⟨rfl,rfl⟩;rw[h1']) | (go_at_call 47;refine (hp _).mono ?_;rintro e w' ⟨rfl,rfl⟩) | (go_at_call 50;refine (hi _).mono ?_;rintro e w' ⟨j,hj,rfl,rfl⟩))
   refine bodyPost_ret (v:=.tuple #[zP ⟨.sign s[k],0,1,[],[]⟩ (.slice none 0 0),.int .i64 1]) (by simp[results,Tryd.results30,go_sem,zP,zt]) rfl ⟨_,rfl,zc _ _,World.ownsRow_nil _ _ _ _⟩
  rw[if_neg h5]
  have hi:=fun w=>za4 ⟨#[47,38,33,63,42,43,40,41,46]⟩ s[k] w (by simpa [Thk.Qf] using h5)
  clear h5
  go_enter Tryd.func30,Tryd.ntmps30
  go_wp2_with (first | (go_at_call 45;refine (YD _ _).mono ?_;rintro e w' ⟨rfl,rfl⟩;rw[h1']) | (go_at_call 47;refine (hp _).mono ?_;rintro e w' ⟨rfl,rfl⟩) | (go_at_call 50;refine (hi _).mono ?_;rintro e w' ⟨rfl,rfl⟩) | (go_at_call 51;refine (zdR _).mono ?_;rintro e w1 ⟨v,rfl,hb,hv⟩;obtain⟨a0,c0,rfl⟩:=zl hv;obtain⟨q1,q2,q3⟩:=qc hb;simp only[zP]))
  refine bodyPost_ret (v:=.tuple #[zP Thk.zB (.slice a0 Thk.zB.spans.length c0),.int .i64 Thk.zB.size]) (by simp[results,Tryd.results30,go_sem,zP,q1]) rfl ⟨_,rfl,?_⟩
  exact qd _ _ _ _ hb hv
 ·have t0:((k:Int) == s.size)=true:=beq_iff_eq.2 (by omega)
  rw[J6 s k (by omega)]
  go_enter Tryd.func30,Tryd.ntmps30
  go_wp2_with fail
  refine bodyPost_ret (v:=.tuple #[zP ⟨.fin,0,0,[],[]⟩ (.slice none 0 0),.int .i64 0]) (by simp[results,Tryd.results30,go_sem,zP,zt]) rfl ⟨_,rfl,zc _ _,World.ownsRow_nil _ _ _ _⟩
theorem Tryd.infoTok:(Tryd.prog.info? 84).map (fun i=>(i.zero,i.size,i.bytes))=some (some (.agg #[.int .u8 0,.int .i64 0,.string ⟨#[]⟩,.slice none 0 0]),4,56):=by kernel_rfl
theorem zbi {l:List UInt8} {n:Nat} {m:UInt8} {k:Nat} (h:Thk.ZX l n m k=true):n<l.length:=by
 unfold Thk.ZX at h
 simp only[Bool.and_eq_true,beq_iff_eq] at h
 exact (List.getElem?_eq_some_iff.1 h.1.1).1
theorem Kl (l:List UInt8) (h:(Thk.zM l).kind.last=false) : 1≤(Thk.zM l).size∧(Thk.zM l).size≤l.length:=by
 cases l with
 | nil=>simp[Thk.zM,Thk.TK.last] at h
 | cons c t=>
  simp only[Thk.zM] at h ⊢
  split
  ·rename_i h1
   rw[if_pos h1] at h
   unfold Thk.Ql at h ⊢
   split
   ·rename_i h2;rw[if_pos h2] at h;cases h
   ·have:=za8 (c::t)
    have:Thk.ZQ (c::t)=Thk.ZQ t+1:=by simp[Thk.ZQ,h1]
    simp only[];omega
  ·rename_i h1
   rw[if_neg h1] at h
   split
   ·rename_i h2
    simp only[List.length_cons]
    cases t with
    | nil=>simp at h2
    | cons d t=>simp
   ·rename_i h2
    rw[if_neg h2] at h
    split
    ·rename_i h3
     rw[if_pos h3] at h
     unfold Thk.Qv at h ⊢
     split
     ·rename_i h4
      have:=zbi h4
      simp only[List.length_cons];omega
     ·rename_i h4;rw[if_neg h4] at h;cases h
    ·rename_i h3
     rw[if_neg h3] at h
     split
     ·rename_i h4
      rw[if_pos h4] at h
      unfold Thk.QB at h ⊢
      split
      ·rename_i h5
       have:=zbi h5
       simp only[List.length_cons];omega
      ·rename_i h5;rw[if_neg h5] at h;cases h
     ·rename_i h4
      rw[if_neg h4] at h
      split
      ·simp
      ·rename_i h5;rw[if_neg h5] at h;cases h
def zG (pos:Nat) (l:List UInt8):Thk.Tok:={ Thk.zM (l.drop (Thk.blk false l)) with place:=pos+Thk.blk false l }
theorem qe (f pos:Nat) (l:List UInt8):Thk.QC (f+1) pos l=zG pos l ::
  (if (zG pos l).kind.last then [] else Thk.QC f ((zG pos l).place+(zG pos l).size) (l.drop (Thk.blk false l+(zG pos l).size))):=by
 simp only[Thk.QC,zG,List.drop_drop]
 rfl
theorem zdb:∀ (f g pos:Nat) (l:List UInt8),l.length<f→l.length<g→Thk.QC f pos l=Thk.QC g pos l
 | 0,_,_,_,h,_=>by omega
 | _+1,0,_,_,_,h=>by omega
 | f+1,g+1,pos,l,hf,hg=>by
  rw[qe,qe]
  cases hk:(zG pos l).kind.last with
  | true=>rfl
  | false=>
   have hs:=Kl (l.drop (Thk.blk false l)) hk
   have hb:=Kb false l
   rw[List.length_drop] at hs
   have hd:(l.drop (Thk.blk false l+(zG pos l).size)).length=l.length - (Thk.blk false l+(zG pos l).size):=List.length_drop
   have e:(zG pos l).size=(Thk.zM (l.drop (Thk.blk false l))).size:=rfl
   simp only[Bool.false_eq_true,if_false]
   rw[zdb f g _ _ (by omega) (by omega)]
def TL (pos:Nat) (l:List UInt8):List Thk.Tok:=Thk.QC (l.length+1) pos l
theorem K9 (pos:Nat) (l:List UInt8):TL pos l=zG pos l::(if (zG pos l).kind.last then [] else TL ((zG pos l).place+(zG pos l).size) (l.drop (Thk.blk false l+(zG pos l).size))):=by
 unfold TL
 rw[qe]
 cases hk:(zG pos l).kind.last with
 | true=>rfl
 | false=>
  have hs:=Kl (l.drop (Thk.blk false l)) hk
  have hb:=Kb false l
  rw[List.length_drop] at hs
  have hd:(l.drop (Thk.blk false l+(zG pos l).size)).length=l.length - (Thk.blk false l+(zG pos l).size):=List.length_drop
  have e:(zG pos l).size=(Thk.zM (l.drop (Thk.blk false l))).size:=rfl
  simp only[Bool.false_eq_true,if_false]
  rw[zdb l.length _ _ _ (by omega) (Nat.lt_succ_self _)]
theorem YZ (l:List UInt8):Thk.Qn l=TL 0 l:=rfl
def YI (p:Thk.Tok × Value):List Value:=[.int .u8 (zt p.1.kind),.int .i64 p.1.place,.string ⟨p.1.text.toArray⟩,p.2]
def YN (w:World) (B:Nat) (v:Value) (ps:List (Thk.Tok × Value)):Prop:=
 w.ownsRow B 84 4 v ps.length (ps.flatMap YI)∧∀ p ∈ ps,Qr w B p.2 p.1.spans
theorem YN.below {w w':World} {B:Nat} {v:Value} {ps:List (Thk.Tok × Value)} (h:YN w B v ps) (hb:Below w.heap.size w w'):YN w' B v ps:=
 ⟨Zv h.1 hb,fun p hp=>Zv (h.2 p hp) hb⟩
def U1 (s:ByteArray) (B:Nat) (w0:World) (j:Nat) (ps:List (Thk.Tok × Value)) (v:Value) (wr:World):Prop:=
 j≤s.size∧ps.length≤j∧YN wr B v ps∧Below B w0 wr∧B≤wr.heap.size∧(∀ p ∈ ps,p.1.kind.last=false) ∧
 Thk.Qn s.data.toList=ps.map (·.1)++TL j (s.data.toList.drop j)
theorem zd9 (s:ByteArray) (j:Nat):zG j (s.data.toList.drop j) = { Thk.zM (s.data.toList.drop (j+Thk.blk false (s.data.toList.drop j))) with place:=j+Thk.blk false (s.data.toList.drop j) }:=by
 unfold zG;rw[List.drop_drop]
theorem zed (w:World) (x y z u:Value) (t:TypeId):∀ j q,[x,y,z,u][j]? = some q→(w.alloc (.cells #[x,y,z,u] t)).cell? ((⟨w.heap.size,0,none⟩:Addr).add j)=some q:=by
 intro j q hj
 match j,hj with
 | 0,hj=>simp at hj;subst hj;simp[Addr.add]
 | 1,hj=>simp at hj;subst hj;simp[Addr.add]
 | 2,hj=>simp at hj;subst hj;simp[Addr.add]
 | 3,hj=>simp at hj;subst hj;simp[Addr.add]
theorem zgG (l:List UInt8):(Thk.Ql l).kind = .bad∨(Thk.Ql l).kind = .name:=by unfold Thk.Ql;split<;>simp[Thk.zB]
theorem zfT (l:List UInt8):(Thk.Qv l).kind = .bad∨(Thk.Qv l).kind = .lit:=by unfold Thk.Qv;split<;>simp[Thk.zB]
theorem zeu (l:List UInt8):(Thk.QB l).kind = .bad∨(Thk.QB l).kind = .cls:=by unfold Thk.QB;split<;>simp[Thk.zB]
def Qm:Thk.TK→Prop
 | .sign c=>Thk.Qf c=true
 | _=>True
theorem qa (l:List UInt8):Qm (Thk.zM l).kind:=by
 cases l with
 | nil=>simp[Thk.zM,Qm]
 | cons c t=>
  simp only[Thk.zM]
  split
  ·rcases zgG (c::t) with h | h<;>simp[h,Qm]
  ·split
   ·simp[Qm]
   ·split
    ·rcases zfT t with h | h<;>simp[h,Qm]
    ·split
     ·rcases zeu t with h | h<;>simp[h,Qm]
     ·split
      ·assumption
      ·simp[Thk.zB,Qm]
theorem KW {c:UInt8} (h:Thk.Qf c=true) : 33≤c.toNat:=by
 simp[Thk.Qf] at h
 rcases h with rfl | rfl | rfl | rfl | rfl | rfl | rfl | rfl | rfl<;>decide
theorem zfF {k:Thk.TK} (hk:Qm k):(k.last=true∧(zt k=0∨zt k=1))∨(k.last=false∧(zt k == 0)=false∧(zt k == 1)=false):=by
 cases k with
 | fin=>left;simp[Thk.TK.last,zt]
 | bad=>left;simp[Thk.TK.last,zt]
 | sign c=>
  right
  have:=KW hk
  refine⟨rfl,beq_eq_false_iff_ne.2 ?_,beq_eq_false_iff_ne.2 ?_⟩<;>simp only[zt]<;>omega
 | _=>right;simp[Thk.TK.last,zt]
theorem U1.push {s:ByteArray} {B:Nat} {w0:World} {j:Nat} {ps:List (Thk.Tok × Value)} {v:Value} {wr:World} (h:U1 s B w0 j ps v wr)
  {T:Thk.Tok} {sv:Value} {w1 w2:World} {v':Value} (hb:Below wr.heap.size wr w1) (hsv:Qr w1 wr.heap.size sv T.spans) {O1 O2:Obj}
  (ho:w2.ownsRow B 84 4 v' (ps.length+1) (ps.flatMap YI++YI (T,sv))) (hg:((w1.alloc O1).alloc O2).grownBy w2 v.ownBlock) :
  YN w2 B v' (ps++[(T,sv)])∧Below B w0 w2∧B≤w2.heap.size:=by
 obtain⟨h1,h2,h3,h4,h5,h6⟩:=h
 have hs:=hg.size
 have hs1:=hb.size
 simp at hs
 have hK:∀ {e:TypeId} {sz:Nat} {u:Value} {n:Nat} {xs:List Value},w1.ownsRow B e sz u n xs→e≠84→w2.ownsRow B e sz u n xs:=by
  intro e sz u n xs hu he
  refine ((hu.alloc O1).alloc O2).kept hg ?_
  rcases hu.2 with ⟨rfl,_⟩ | ⟨g,cap,cur,rfl,_,hc,_⟩
  ·left;rfl
  ·right
   intro hx
   rcases (Zv h3.1 hb).2 with ⟨rfl,_⟩ | ⟨g',cap',cur',rfl,_,hc',_⟩
   ·simp[Value.ownBlock] at hx
   ·simp[Value.ownBlock] at hx
    subst hx
    rw[hc] at hc'
    simp at hc'
    exact he hc'.2
 refine⟨⟨by simpa using ho,?_⟩,?_,by omega⟩
 ·intro p hp
  rcases List.mem_append.1 hp with hp | hp
  ·exact hK (Zv (h3.2 p hp) hb) (by decide)
  ·simp at hp;subst hp
   exact hK (Zn hsv h5) (by decide)
 ·exact (((h4.trans (hb.mono h5)).alloc (by omega) O1).alloc (by simp;omega) O2).grown hg (by simp;omega) (fun g hg'=>(h3.1.lt g hg').1)
theorem zex (s:ByteArray) (w:World) (hs:s.size≤2000) :
    Calls Tryd.prog 17 #[.string s] w fun e w'=>∃ a c ps,e = .returned (.slice (some a) (Thk.Qn s.data.toList).length c)∧Below w.heap.size w w' ∧
      ps.map (·.1)=Thk.Qn s.data.toList∧YN w' w.heap.size (.slice (some a) (Thk.Qn s.data.toList).length c) ps:=by
  obtain⟨i0,hi,hz0,hz1,hz2⟩:=info_parts Tryd.infoTok
  go_enter Tryd.func17,Tryd.ntmps17
  go_wp2_with fail
  go_loopw [3,4] (fun v i wr=>∃ (j:Nat) (ps:List (Thk.Tok × Value)),i = .int .i64 j∧U1 s w.heap.size w j ps v wr) (fun _ i _=>s.size - (intOf i).toNat)
  case atStart=>
    refine⟨0,[],rfl,by omega,by simp,⟨World.ownsRow_nil _ _ _ _,by simp⟩,Below.refl _ _,Nat.le_refl _,by simp,?_⟩
    rw[YZ];simp
  case round=>
    obtain⟨j,ps,rfl,hR⟩:=hrel
    have hj:=hR.1
    have hbl:=Kb false (s.data.toList.drop j)
    rw[List.length_drop,show s.data.toList.length=s.size from rfl] at hbl
    obtain⟨T,hT⟩:∃ T,T=Thk.zM (s.data.toList.drop (j+Thk.blk false (s.data.toList.drop j))):=⟨_,rfl⟩
    obtain⟨r,hr⟩:∃ r,r=j+Thk.blk false (s.data.toList.drop j):=⟨_,rfl⟩
    have hrs:r≤s.size:=by omega
    have hsk:=fun w=>ziP s j r w hj hs hr.symm
    have htk:=fun w=>zjd s r w hs hrs
    rw[← hr] at hT
    rw[← hT] at htk
    have HT:Hid (zG j (s.data.toList.drop j) = { T with place:=r }):=by rw[zd9,← hr,← hT];rfl
    have HR:Hid (r=j+Thk.blk false (s.data.toList.drop j)):=hr
    have HTT:Hid (T=Thk.zM (s.data.toList.drop r)):=hT
    clear hr hT hbl
    have hown:=hR.2.2.1.1
    have hxl:=hR.2.1
    have hB:=hR.2.2.2.2.1
    go_wp2_with (first | (go_at_call 29;refine (hsk _).mono ?_;rintro e w' ⟨rfl,rfl⟩) | (go_at_call 30;refine (htk _).mono ?_;rintro e w1 ⟨v,rfl,hb1,hv⟩;obtain⟨a0,c0,rfl⟩:=zl hv;have hown1:=Zv hown hb1;have hsz1:=hb1.size;simp only[zP]) | (at_builtin;refine wpList_append_own _ rfl _ _ 58 rfl (w.heap.size) 84 i0 _ 4 56 Tryd.underlying58 hi hz0 hz1 hz2 rfl (by decide) _ _ _ rfl ((hown1.alloc _).alloc _) ⟨w1.heap.size+1,0,none⟩ 1 1 (YI ({ T with place:=r },.slice a0 T.spans.length c0)) rfl rfl ?c1 ?c2 ?c3 ?c4 ?c5 ?_))
    case c1=>rw[← World.size_alloc w1 (Obj.cells #[Value.int IntKind.u8 (zt T.kind),Value.int IntKind.i64 ↑r,Value.string ⟨List.toArray T.text⟩,Value.slice a0 T.spans.length c0] 84)];exact zed _ _ _ _ _ _
    case c2=>intro u hu;simp[YI] at hu;rcases hu with rfl | rfl | rfl | rfl<;>rfl
    case c3=>unfold maxLen;omega
    case c4=>omega
    case c5=>simp;omega
    intro v' w2 hown' hgrow hnn
    have hP:=hR.push (T:={ T with place:=r }) (sv:=.slice a0 T.spans.length c0) hb1 hv hown' hgrow
    have hcell:w2.cell? ⟨w1.heap.size,0,none⟩=some (.int .u8 (zt T.kind)):=by
      refine hgrow.cell ?_ ?_
      · rw[World.cell?_alloc_lt _ _ _ (by simp)];simp
      · intro hx
        have:=(hown1.lt _ hx.symm)
        simp at this
    have hTok:Qm T.kind:=by rw[HTT.out];exact qa _
    have hTL:=K9 j (s.data.toList.drop j)
    rw[HT.out] at hTL
    have HTL:Hid (TL j (s.data.toList.drop j)=_):=hTL
    have hall:=hR.2.2.2.2.2.2
    have hpl:=hR.2.2.2.2.2.1
    have HALL:Hid (Thk.Qn s.data.toList=ps.map (·.1)++TL j (s.data.toList.drop j)):=hall
    clear hTL hall hR hown hown1 hown' hgrow hv hb1 hsk htk
    rcases zfF hTok with ⟨hl,hk⟩ | ⟨hl,hk0,hk1⟩
    · have hD:ps.map (·.1)++[{ T with place:=r }]=Thk.Qn s.data.toList:=by
        rw[HALL.out,HTL.out,if_pos hl]
      have hLen:(Thk.Qn s.data.toList).length=ps.length+1:=by rw[← hD];simp
      obtain⟨hP1,hP2,hP3⟩:=hP
      have hvf:∃ a c,v' = .slice (some a) (ps.length+1) c:=by
        rcases hP1.1.2 with ⟨h,_⟩ | ⟨g,cap,cur,h,_⟩
        · exact absurd h hnn
        · exact⟨_,_,by simpa using h⟩
      obtain⟨a,c,rfl⟩:=hvf
      have hfin : ∃ a1 c1 ps1, Ending.returned (.slice (some a) (ps.length + 1) c) = .returned (.slice (some a1) (Thk.Qn s.data.toList).length c1) ∧ Below w.heap.size w w2 ∧
          ps1.map (·.1)=Thk.Qn s.data.toList∧YN w2 w.heap.size (.slice (some a1) (Thk.Qn s.data.toList).length c1) ps1:=
        ⟨a,c,ps++[({ T with place:=r },.slice a0 T.spans.length c0)],by rw[hLen],hP2,by rw[← hD];simp,by rw[hLen];exact hP1⟩
      have HF:Hid _:=hfin
      clear hfin hP1 hP2 hP3 hLen hD HALL HTL HT HTT
      have hk':(zt T.kind == 0)=true∨((zt T.kind == 0)=false∧(zt T.kind == 1)=true):=by
        rcases hk with h | h<;>rw[h]
        · left;rfl
        · right;exact⟨rfl,rfl⟩
      rcases hk' with hk0 | ⟨hk0,hk1⟩
      · go_wp2
        go_ret
        exact HF.out
      · go_wp2
        go_ret
        exact HF.out
    · have hs1:=Kl (s.data.toList.drop r) (by rw[← HTT.out];exact hl)
      rw[← HTT.out,List.length_drop,show s.data.toList.length=s.size from rfl] at hs1
      obtain⟨hs1,hs2⟩:=hs1
      have hN:U1 s w.heap.size w (r+T.size) (ps++[({ T with place:=r },.slice a0 T.spans.length c0)]) v' w2:=by
        refine⟨by omega,by have:=HR.out;simp;omega,hP.1,hP.2.1,hP.2.2,?_,?_⟩
        · intro p hp
          rcases List.mem_append.1 hp with hp | hp
          · exact hpl p hp
          · simp at hp;subst hp;exact hl
        · rw[HALL.out,HTL.out,if_neg (by simp[hl])]
          have e:j+(Thk.blk false (s.data.toList.drop j)+T.size)=r+T.size:=by have:=HR.out;omega
          simp only[List.drop_drop,e,List.map_append,List.map_cons,List.map_nil,List.append_assoc,List.cons_append,List.nil_append]
      clear hP hpl HALL HTL HT
      go_wp2
      go_roundw
      case rel=>exact⟨r+T.size,_,by go_num,hN⟩
      case measure=>have:=HR.out;simp[intOf];omega
def Rd (w:World) (rb tb tc:Nat) (ps:List (Thk.Tok × Value)) (n d:Nat):Prop:=
 w.heap[rb]? = some (.cells #[.slice (some ⟨tb,0,none⟩) ps.length tc,.int .i64 n,.int .i64 d] 61 (0,0)) ∧
 YN w 0 (.slice (some ⟨tb,0,none⟩) ps.length tc) ps∧ps.length≤2001∧∀ p ∈ ps,p.1.text.length≤2000
theorem z8 {w:World} {b:Nat} {cs:Array Value} {e:TypeId} {fr:Nat × Nat} (h:w.heap[b]? = some (.cells cs e fr)) (o:Nat):w.cell? ⟨b,o,none⟩=cs[o]? := by
 simp[World.cell?,h]
theorem zi {w:World} {b:Nat} {cs:Array Value} {e:TypeId} (h:w.heap[b]? = some (.cells cs e (0,0))) (o:Nat):w.frozen? ⟨b,o,none⟩=false:=by
 simp[World.frozen?,h]
theorem zf0 (ps:List (Thk.Tok × Value)) (i j:Nat) (hi:i<ps.length) (hj:j<4):(ps.flatMap YI)[i * 4+j]? = (YI ps[i])[j]? := by
 induction ps generalizing i with
 | nil=>simp at hi
 | cons p ps ih=>
  have hl:(YI p).length=4:=rfl
  cases i with
  | zero=>
   simp only[List.flatMap_cons,Nat.zero_mul,Nat.zero_add,List.getElem_cons_zero]
   rw[List.getElem?_append_left (by omega)]
  | succ i=>
   simp only[List.flatMap_cons,List.getElem_cons_succ]
   rw[List.getElem?_append_right (by omega),hl,show (i+1) * 4+j - 4=i * 4+j from by omega]
   exact ih i (by simpa using hi)
theorem Rd.tok {w:World} {rb tb tc:Nat} {ps:List (Thk.Tok × Value)} {n d:Nat} (h:Rd w rb tb tc ps n d) (i j:Nat) (hi:i<ps.length) (hj:j<4) :
  w.cell? ⟨tb,i * 4+j,none⟩=(YI ps[i])[j]? := by
 rw[h.2.1.1.cellAt (i * 4+j) (by omega)]
 exact zf0 ps i j hi hj
theorem Rd.tok' {w:World} {rb tb tc:Nat} {ps:List (Thk.Tok × Value)} {n d:Nat} (h:Rd w rb tb tc ps n d) (i:Nat) (hi:i<ps.length) :
  w.cell? ⟨tb,i * 4,none⟩=some (.int .u8 (zt ps[i].1.kind))∧w.cell? ⟨tb,i * 4+1,none⟩=some (.int .i64 ps[i].1.place) ∧
  w.cell? ⟨tb,i * 4+2,none⟩=some (.string ⟨ps[i].1.text.toArray⟩)∧w.cell? ⟨tb,i * 4+3,none⟩=some ps[i].2:=
 ⟨h.tok i 0 hi (by decide),h.tok i 1 hi (by decide),h.tok i 2 hi (by decide),h.tok i 3 hi (by decide)⟩
theorem Rd.cells {w:World} {rb tb tc:Nat} {ps:List (Thk.Tok × Value)} {n d:Nat} (h:Rd w rb tb tc ps n d) :
  w.cell? ⟨rb,0,none⟩=some (.slice (some ⟨tb,0,none⟩) ps.length tc)∧w.cell? ⟨rb,1,none⟩=some (.int .i64 n)∧w.cell? ⟨rb,2,none⟩=some (.int .i64 d)∧∀ o,w.frozen? ⟨rb,o,none⟩=false:=
 ⟨z8 h.1 0,z8 h.1 1,z8 h.1 2,zi h.1⟩
theorem zfI (w:World) (rb tb tc:Nat) (ps:List (Thk.Tok × Value)) (n d:Nat) (h:Rd w rb tb tc ps n d) (hn:n<ps.length) :
  Calls Tryd.prog 32 #[.pointer (some ⟨rb,0,none⟩)] w fun e w'=>e = .returned (.int .u8 (zt ps[n].1.kind))∧∃ q,w'=w.drewN q:=by
 obtain⟨c0,c1,c2,fz⟩:=h.cells
 obtain⟨k0,k1,k2,k3⟩:=h.tok' n hn
 have hl:=h.2.2.1
 have hn':(n:Int)<(ps.length:Int):=by omega
 clear h k1 k2 k3 c2 fz
 go_enter Tryd.func32,Tryd.ntmps32
 go_wp2_with fail
 go_quiet (fail)
 go_wp2_with fail
 go_ret
 exact⟨rfl,_,rfl⟩
theorem UU (w:World) (rb tb tc:Nat) (ps:List (Thk.Tok × Value)) (n d:Nat) (h:Rd w rb tb tc ps n d) (hn:n<ps.length) (er:Int) :
  Calls Tryd.prog 53 #[.pointer (some ⟨rb,0,none⟩),.int .i64 er] w fun e w'=>e = .returned (.iface 54 (.agg #[.int .i64 er,.int .i64 ps[n].1.place]))∧∃ q,w'=w.drewN q:=by
 obtain⟨c0,c1,c2,fz⟩:=h.cells
 obtain⟨k0,k1,k2,k3⟩:=h.tok' n hn
 have hl:=h.2.2.1
 have hn':(n:Int)<(ps.length:Int):=by omega
 clear h k0 k2 k3 c2 fz
 go_enter Tryd.func53,Tryd.ntmps53
 go_wp2_with fail
 go_quiet (fail)
 go_wp2_with fail
 go_ret
 exact⟨rfl,_,rfl⟩
end Go.Proofs.YtiganlkabilblaaDoor
