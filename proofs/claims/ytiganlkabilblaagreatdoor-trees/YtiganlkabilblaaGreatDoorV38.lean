import Derived.Test.YtiganlkabilblaaGreatDoorV32
import Derived.Test.YtiganlkabilblaaGreatDoorV30
import Derived.Test.YtiganlkabilblaaGreatDoorV37
import Derived.BigQuiet
set_option linter.all false
set_option maxHeartbeats 64000000
set_option maxRecDepth 100000
namespace Go.Proofs.YtiganlkabilblaaGreatDoor
open Go.RowKit Thk
attribute [local go_sem ↓] Go.wp_at_zero Go.wp_at_succ
section
variable {w0 : World} {B gb tb eb ec H : Nat} {vx vr : Value} {ps : List (RE × Value × Value)} {rs : List (Bytes × Nat)} {s : ByteArray} {rbs : List Nat}
structure KpN (rbs:List Nat) (ob:Option Nat) (w w':World):Prop where
 os:w'.os=w.os
 tape:w'.tape=w.tape
 output:w'.output=w.output
 size:w.heap.size≤w'.heap.size
 block:∀ b,b<w.heap.size→b ∉ rbs→some b≠ob→w'.heap[b]? = w.heap[b]?
theorem KpN.of_kpM {ob:Option Nat} {w w':World} (h:KpM rbs w.heap.size w w'):KpN rbs ob w w':=⟨h.os,h.tape,h.output,h.size,fun b hb hn _=>h.block b hb hn⟩
theorem KpN.trans {ob ob1:Option Nat} {w w1 w2:World} (h:KpN rbs ob w w1) (h1:KpN rbs ob1 w1 w2) (ho:ob1=ob∨∃ g,ob1=some g∧w.heap.size≤g):KpN rbs ob w w2:=by
 refine⟨h1.os.trans h.os,h1.tape.trans h.tape,h1.output.trans h.output,Nat.le_trans h.size h1.size,fun b hb hn hr=>?_⟩
 rw[h1.block b (Nat.lt_of_lt_of_le hb h.size) hn,h.block b hb hn hr]
 rcases ho with rfl | ⟨g,rfl,hg⟩
 ·exact hr
 ·intro e;have:=Option.some.inj e;omega
theorem KpN.grown {ob:Option Nat} {X w6:World} {O:Obj} (h:(X.alloc O).grownBy w6 ob):KpN rbs ob X w6:=by
 have hs:=h.size
 simp at hs
 exact⟨h.os,h.tape,h.output,by omega,fun b hb _ hr=>by rw[h.block b (by simp;omega) hr,za5 _ _ hb]⟩
structure NdS (w0:World) (tb eb ec H:Nat) (vx vr:Value) (ps:List (RE × Value × Value)) (rs:List (Bytes × Nat)) (s:ByteArray) (rbs:List Nat) (a:Option Addr) (c:Nat) (xs:List Nod) (w:World):Prop where
 st:Stt w0 tb eb ec vx vr ps rs s rbs w
 row:w.ownsRow H 60 4 (.slice a xs.length c) xs.length (xs.flatMap nodC)
 tlt:tb<H
 elt:eb<H
 rlt:∀ b ∈ rbs,b<H
 wle:w0.heap.size≤H
 hle:H≤w.heap.size
theorem Stt.low {w w':World} (h:Stt w0 tb eb ec vx vr ps rs s rbs w) (tlt:tb<H) (elt:eb<H) (rlt:∀ b ∈ rbs,b<H) (wle:w0.heap.size≤H) (hs:w.heap.size≤w'.heap.size) (hb:∀ b,b<H→w'.heap[b]? = w.heap[b]?):Stt w0 tb eb ec vx vr ps rs s rbs w':=by
 obtain⟨M,h1,h2⟩:=h
 refine⟨M,⟨Nat.le_trans h1.size hs,fun b hb'=>by rw[hb b (by omega)];exact h1.old b hb',by rw[hb _ tlt];exact h1.blk,Nat.lt_of_lt_of_le h1.elt hs,fun i hi=>?_,fun i hi=>?_,h1.nodup,h1.rge,h1.tn,h1.en⟩,h2⟩
 ·rw[World.cell?_of_block (a:=⟨eb,i,none⟩) (hb eb elt)];exact h1.ends i hi
 ·rw[hb _ (rlt _ (List.getElem_mem hi))];exact h1.row i hi
theorem NdS.kpM {a:Option Addr} {c:Nat} {xs:List Nod} {w w':World} (h:NdS w0 tb eb ec H vx vr ps rs s rbs a c xs w) (h':Stt w0 tb eb ec vx vr ps rs s rbs w') (hk:KpM rbs w.heap.size w w'):NdS w0 tb eb ec H vx vr ps rs s rbs a c xs w':=
 ⟨h',zah h.row (fun g hg=>hk.block g (h.row.lt g hg).2 (fun hb=>by have:=h.rlt g hb;have:=(h.row.lt g hg).1;omega)),h.tlt,h.elt,h.rlt,h.wle,Nat.le_trans h.hle hk.size⟩
theorem NdS.below {a:Option Addr} {c:Nat} {xs:List Nod} {w w':World} (h:NdS w0 tb eb ec H vx vr ps rs s rbs a c xs w) (hb:Below w.heap.size w w'):NdS w0 tb eb ec H vx vr ps rs s rbs a c xs w':=
 h.kpM (h.st.below hb) (KpM.of_below hb)
theorem NdS.push {a:Option Addr} {c:Nat} {xs:List Nod} {X w6:World} {g cap:Nat} {z:Nod} {O:Obj} (h:NdS w0 tb eb ec H vx vr ps rs s rbs a c xs X) (hown:w6.ownsRow H 60 4 (.slice (some ⟨g,0,none⟩) (xs.length+1) cap) (xs.length+1) (xs.flatMap nodC++nodC z)) (hg:(X.alloc O).grownBy w6 (obS a xs.length c)):NdS w0 tb eb ec H vx vr ps rs s rbs (some ⟨g,0,none⟩) cap (xs++[z]) w6:=by
 have hs:=hg.size
 simp at hs
 have hh:=h.hle
 refine⟨h.st.low h.tlt h.elt h.rlt h.wle (by omega) (fun b hb=>?_),by rw[zek,List.length_append];exact hown,h.tlt,h.elt,h.rlt,h.wle,by omega⟩
 rw[hg.block b (by simp;omega) (fun e=>by have:=(h.row.lt b e.symm).1;omega),za5 _ _ (by omega)]
def NdPost (w0:World) (tb eb ec H:Nat) (vx vr:Value) (ps:List (RE × Value × Value)) (rs:List (Bytes × Nat)) (s:ByteArray) (rbs:List Nat) (a:Option Addr) (c:Nat) (xs l:List Nod) (w:World) (e:Ending) (w':World):Prop:=∃ a' c',e = .returned (.slice a' (xs++l).length c')∧NdS w0 tb eb ec H vx vr ps rs s rbs a' c' (xs++l) w'∧KpN rbs (obS a xs.length c) w w'∧(obS a' (xs++l).length c'=obS a xs.length c∨∃ g,obS a' (xs++l).length c'=some g∧w.heap.size≤g)
abbrev ndS (ps:List (RE × Value × Value)) (rs:List (Bytes × Nat)) (s:ByteArray):Nat→Nat→Nat→Nat→Option (List Nod):=ndR (xsOf ps) (nmOf rs) (bdOf rs) s.data.toList
def zd8 (w0:World) (tb eb ec H:Nat) (vx vr:Value) (ps:List (RE × Value × Value)) (rs:List (Bytes × Nat)) (s:ByteArray) (rbs:List Nat) (f:Nat):Prop:=
 ∀ (w:World) (i k d:Nat) (a:Option Addr) (c:Nat) (xs l:List Nod),NdS w0 tb eb ec H vx vr ps rs s rbs a c xs w→k≤s.size→ndS ps rs s f i k d=some l→xs.length+l.length≤100000→d+l.length≤100000 →
  Calls Tryz.prog 76 #[.pointer (some ⟨tb,0,none⟩),.int .i64 i,.int .i64 k,.int .i64 d,.slice a xs.length c] w (NdPost w0 tb eb ec H vx vr ps rs s rbs a c xs l w)
theorem NdPost.go {a:Option Addr} {c:Nat} {xs l l2:List Nod} {w w1 w2:World} {a1:Option Addr} {c1:Nat} {e:Ending} (hk:KpN rbs (obS a xs.length c) w w1) (ho:obS a1 (xs++l).length c1=obS a xs.length c∨∃ g,obS a1 (xs++l).length c1=some g∧w.heap.size≤g) (h:NdPost w0 tb eb ec H vx vr ps rs s rbs a1 c1 (xs++l) l2 w1 e w2):NdPost w0 tb eb ec H vx vr ps rs s rbs a c xs (l++l2) w e w2:=by
 obtain⟨a',c',he,h1,h2,h3⟩:=h
 rw[List.append_assoc] at h1 h3 he
 refine⟨a',c',he,h1,hk.trans h2 ho,?_⟩
 rcases h3 with e | ⟨g,e,hg⟩
 ·rcases ho with e2 | ⟨g,e2,hg⟩
  ·exact .inl (e.trans e2)
  ·exact .inr ⟨g,e.trans e2,hg⟩
 ·exact .inr ⟨g,e,Nat.le_trans hk.size hg⟩
theorem NdPost.form {a:Option Addr} {c:Nat} {xs l:List Nod} {w w':World} {e:Ending} (h:NdPost w0 tb eb ec H vx vr ps rs s rbs a c xs l w e w'):∃ a' n' c',e = .returned (.slice a' n' c')∧Hid (NdPost w0 tb eb ec H vx vr ps rs s rbs a c xs l w (.returned (.slice a' n' c')) w'):=by
 obtain⟨a',c',he,h1⟩:=h
 exact⟨a',_,c',he,hideP ⟨a',c',rfl,h1⟩⟩
theorem nodes_leaf (hE:Env w0 B gb vx vr ps rs s rbs) (w:World) (i k d:Nat) (a:Option Addr) (c:Nat) (xs:List Nod) (e:RE) (h:NdS w0 tb eb ec H vx vr ps rs s rbs a c xs w) (hx:(xsOf ps)[i]? = some e) (hok:okE (nmOf rs) e=true) (hkd:e.kind≤3∨10≤e.kind) (hxl:xs.length≤100000) :
  Calls Tryz.prog 76 #[.pointer (some ⟨tb,0,none⟩),.int .i64 i,.int .i64 k,.int .i64 d,.slice a xs.length c] w (NdPost w0 tb eb ec H vx vr ps rs s rbs a c xs [] w):=by
 obtain⟨xg,xc,ia,ic,pa,pc,hi,rfl,hxl,c0,c1,c2,c3,c4,hpn,hpc,hit,hil,_,_,hkn⟩:=h.st.exq hE hx hok
 obtain⟨htl,hsz,hold,q⟩:=h.st.cells
 have hpl:=hE.ple
 have hil':(i:Int)<ps.length:=by omega
 have q0:w.cell? ⟨tb,0,none⟩=some (.slice (some ⟨xg,0,none⟩) ps.length xc):=q 0
 have k4:((e.kind:Int) == 4)=false:=by simp;omega
 have k5:((e.kind:Int) == 5)=false:=by simp;omega
 have k6:((e.kind:Int) == 6)=false:=by simp;omega
 have k7:((e.kind:Int) == 7)=false:=by simp;omega
 have k8:((e.kind:Int) == 8)=false:=by simp;omega
 have k9:((e.kind:Int) == 9)=false:=by simp;omega
 have HZ:Hid (∀ O,NdPost w0 tb eb ec H (.slice (some ⟨xg,0,none⟩) ps.length xc) vr ps rs s rbs a c xs [] w (.returned (.slice a xs.length c)) (w.alloc O)):=hideP (fun O=>⟨a,c,by simp,by rw[List.append_nil];exact h.below (za1 _ _),KpN.of_kpM (KpM.of_below (za1 _ _)),.inl (by simp)⟩)
 clear hok hit hpc h hx hE hkn q hold hkd
 generalize (e.kind:Int)=kd at *
 generalize e.items.length=il at *
 generalize e.parts.length=pl at *
 generalize e.text=tx at *
 go_enter Tryz.func76,Tryz.ntmps76
 go_wp2_with fail
 go_ret
 exact HZ.out _
end
theorem own_drewN {rbs:List Nat} {w w1:World} {O:Obj} {q:Nat} (hf:∀ b ∈ rbs,b<w.heap.size) (h:KpM rbs ((w.alloc O).drewN q).heap.size ((w.alloc O).drewN q) w1):w1.heap[w.heap.size]? = some O:=
 KpM.own (O:=O) hf ⟨h.os,h.tape,h.output,h.size,h.block⟩
section
variable {w0 : World} {B gb tb eb ec H : Nat} {vx vr : Value} {ps : List (RE × Value × Value)} {rs : List (Bytes × Nat)} {s : ByteArray} {rbs : List Nat}
theorem nodes_name (hE:Env w0 B gb vx vr ps rs s rbs) (f:Nat) (hT:TryC w0 tb eb ec vx vr ps rs s rbs f) (hN:zd8 w0 tb eb ec H vx vr ps rs s rbs f) (w:World) (i k d:Nat) (a:Option Addr) (c:Nat) (xs l:List Nod) (e:RE) (n:Nat) (h:NdS w0 tb eb ec H vx vr ps rs s rbs a c xs w) (hk:k≤s.size) (hx:(xsOf ps)[i]? = some e) (hok:okE (nmOf rs) e=true) (hkd:e.kind=4)
  (hv:evS ps rs s f ((bdOf rs).getD (idx0 (nmOf rs) e.text) 0) k=some (some n)) (hl:(if k<n then (ndS ps rs s f ((bdOf rs).getD (idx0 (nmOf rs) e.text) 0) k (d+1)).map ((idx0 (nmOf rs) e.text,k,n,d) :: ·) else some [])=some l) (hxl:xs.length+l.length≤100000) (hdl:d+l.length≤100000) (hd:d≤100000) :
  Calls Tryz.prog 76 #[.pointer (some ⟨tb,0,none⟩),.int .i64 i,.int .i64 k,.int .i64 d,.slice a xs.length c] w (NdPost w0 tb eb ec H vx vr ps rs s rbs a c xs l w):=by
 obtain⟨xg,xc,ia,ic,pa,pc,hi,rfl,hxgl,c0,c1,c2,c3,c4,hpn,hpc,hit,hil,_,_,hkn⟩:=h.st.exq hE hx hok
 obtain⟨htl,hsz,hold,q⟩:=h.st.cells
 obtain⟨i0,hi0,hz0,hz1,hz2⟩:=info_parts Tryz.infoNode
 have hpl:=hE.ple
 have hrl:=hE.rle
 have hsl:=hE.sle
 have hil':(i:Int)<ps.length:=by omega
 have hcn:=hkn hkd
 have hrf:=zcA (names:=nmOf rs) hkd
 rw[if_pos hcn] at hrf
 have hx0:idx0 (nmOf rs) e.text=(nmOf rs).idxOf e.text:=by unfold idx0;rw[if_pos hcn]
 rw[hx0] at hv hl
 have hxl2:(nmOf rs).idxOf e.text<rs.length:=by
  have:=List.idxOf_lt_length_iff.2 (show e.text ∈ nmOf rs by simpa using hcn)
  simpa using this
 rw[hrf] at c3
 obtain⟨x,hxx⟩:∃ x,x=(nmOf rs).idxOf e.text:=⟨_,rfl⟩
 rw[← hxx] at c3 hv hxl2 hl
 have hbd:(bdOf rs).getD x 0=rs[x].2:=by
  rw[List.getD_eq_getElem?_getD,List.getElem?_map,List.getElem?_eq_getElem hxl2];rfl
 rw[hbd] at hv hl
 obtain⟨rg,rc,hvr,_,hrgl⟩:=hE.gm.ruAt hE.rpos
 have hgm:=hE.gm
 subst hvr
 have d1:=(hgm.ruCells x hxl2).2
 have d1':w.cell? ⟨rg,x * 2+1,none⟩=some (.int .i64 rs[x].2):=by rw[World.cell?_of_block (a:=⟨rg,_,none⟩) (hold rg hrgl)];exact d1
 have hrg2:rg<w.heap.size:=by omega
 have hxl3:(x:Int)<rs.length:=by omega
 have hxn:¬ (x:Int)<0:=by omega
 have hle:=zbC _ _ _ _ hv (show k≤s.data.toList.length from hk)
 have hle2:n≤s.size:=hle.2
 have HTR:=hideP (fun (O:Obj) (q:Nat)=>hT ((w.alloc O).drewN q) rs[x].2 k (some n) (h.st.below (below_drewN (za1 w O) q)) hk hv)
 have HF:=hideP h.st.fresh
 have q0:w.cell? ⟨tb,0,none⟩=some (.slice (some ⟨xg,0,none⟩) ps.length xc):=q 0
 have q1:w.cell? ⟨tb,1,none⟩=some (.slice (some ⟨rg,0,none⟩) rs.length rc):=q 1
 have HNN:=hideP hN
 have HH:=hideP h
 have HL:=hideP hl
 have hw:=h.hle
 generalize rs[x].2=bd at *
 rw[hkd] at c0
 clear hok hit hpc h hx hE hkn hcn hrf hx0 hxx hbd hgm d1 hT hv q hold hkd hN hl
 generalize e.items.length=il at *
 generalize e.parts.length=pl at *
 generalize e.text=tx at *
 simp only[zaM] at HTR
 go_enter Tryz.func76,Tryz.ntmps76
 go_wp2_with fail
 go_quiet (fail)
 go_wp2_with fail
 refine (HTR.out _ _).mono ?_
 rintro _ w1 ⟨rfl,hs1,hk1⟩
 have hk2:KpM rbs w.heap.size w w1:=KpM.go (KpM.of_below (below_drewN (za1 w _) _)) hk1
 have hzw:=hk2.size
 have ho1:=own_drewN HF.out hk1
 have o3:w1.cell? ⟨w.heap.size,3,none⟩=some (.int .i64 x):=za0 ho1 3
 have lo:=za3 ho1
 have HS1:=hideP (HH.out.kpM hs1 hk2)
 have HK2:=hideP hk2
 clear hs1 hk1 hk2 ho1 HTR
 by_cases hkn:k<n
 ·have hne:((n:Int) == (k:Int))=false:=by simp;omega
  have hl2:=HL.out
  rw[if_pos hkn] at hl2
  obtain⟨l',hl',hll⟩:∃ l',ndS ps rs s f bd k (d+1)=some l'∧l=(x,k,n,d)::l':=by
   cases hg:ndS ps rs s f bd k (d+1) with
   | none=>rw[hg] at hl2;cases hl2
   | some l'=>rw[hg] at hl2;exact⟨l',rfl,(Option.some.inj hl2).symm⟩
  subst hll
  simp only[List.length_cons] at hxl hdl
  have HLL:=hideP hl'
  have HOWN:=hideP HS1.out.row
  have HML:Hid (xs.length+1≤maxLen):=by show _≤_;unfold maxLen;omega
  have H1:Hid (∀ u ∈ nodC (x,k,n,d),u.oneCell'=true):=hideP (by intro u hu;simp[nodC] at hu;rcases hu with rfl | rfl | rfl | rfl<;>rfl)
  have hH1:=HS1.out.hle
  clear hl2 hl'
  go_wp2_with (first | (at_builtin;refine wpList_append_lies _ rfl _ _ 53 rfl H 60 i0 _ 4 32 Tryz.underlying53 hi0 hz0 hz1 hz2 rfl (by decide) _ _ _ rfl (HOWN.out.alloc _) ⟨w1.heap.size,0,none⟩ 1 1 (nodC (x,k,n,d)) rfl rfl (World.news_of_block (za4 w1 _)) H1.out (by decide) HML.out (by omega) (by simp;omega) (w1.heap.size+1) (by simp) ?_))
  intro g2 cap2 w6 hown1 hgrow hat hlt3
  have HS6:=hideP (HS1.out.push hown1 hgrow)
  have HK6:=hideP ((KpN.of_kpM (ob:=obS a xs.length c) HK2.out).trans (KpN.grown hgrow) (.inl rfl))
  have HA6:Hid (obS (some ⟨g2,0,none⟩) (xs++[(x,k,n,d)]).length cap2=obS a xs.length c∨∃ g,obS (some ⟨g2,0,none⟩) (xs++[(x,k,n,d)]).length cap2=some g∧w.heap.size≤g):=by
   rcases hat with e | e
   ·exact .inl e.symm
   ·exact .inr ⟨g2,rfl,by omega⟩
  have HC:=hideP (HNN.out w6 bd k (d+1) _ _ _ l' HS6.out hk HLL.out (by simp;omega) (by omega))
  rw[List.length_append] at HC
  simp only[List.length_singleton] at HC
  clear hown1 hgrow hat hlt3
  go_wp2_with fail
  have hd1:((d:Int)+1)=((d+1:Nat):Int):=by omega
  rw[hd1]
  refine (HC.out.mono (fun e' w7 hP=>(NdPost.go (l:=[(x,k,n,d)]) HK6.out HA6.out hP).form)).mono ?_
  rintro _ w7 ⟨a7,m7,c7,rfl,HZ⟩
  clear HC
  simp only[]
  go_wp2_with fail
  go_ret
  exact HZ.out
 ·have hnk:n=k:=by omega
  subst hnk
  have hl2:=HL.out
  rw[if_neg hkn] at hl2
  have:=Option.some.inj hl2
  subst this
  have HZ:Hid (NdPost w0 tb eb ec H (.slice (some ⟨xg,0,none⟩) ps.length xc) (.slice (some ⟨rg,0,none⟩) rs.length rc) ps rs s rbs a c xs [] w (.returned (.slice a xs.length c)) w1):=hideP ⟨a,c,by simp,by rw[List.append_nil];exact HS1.out,KpN.of_kpM HK2.out,.inl (by simp)⟩
  go_wp2_with fail
  go_ret
  exact HZ.out
end
section
variable {w0 : World} {B gb tb eb ec H : Nat} {vx vr : Value} {ps : List (RE × Value × Value)} {rs : List (Bytes × Nat)} {s : ByteArray} {rbs : List Nat}
structure LpN (w0:World) (tb eb ec H:Nat) (vx vr:Value) (ps:List (RE × Value × Value)) (rs:List (Bytes × Nat)) (s:ByteArray) (rbs:List Nat) (a:Option Addr) (c:Nat) (xs l:List Nod) (O:Obj) (w:World) (a':Option Addr) (n' c':Nat) (dn lr:List Nod) (kk:Nat) (wr:World):Prop where
 all:l=dn++lr
 kle:kk≤s.size
 len:n'=(xs++dn).length
 nd:NdS w0 tb eb ec H vx vr ps rs s rbs a' c' (xs++dn) wr
 kp:KpN rbs (obS a xs.length c) w wr
 at_:obS a' (xs++dn).length c'=obS a xs.length c∨∃ g,obS a' (xs++dn).length c'=some g∧w.heap.size<g
 own:wr.heap[w.heap.size]? = some O
theorem LpN.start {a:Option Addr} {c:Nat} {xs l:List Nod} {w:World} {k:Nat} (h:NdS w0 tb eb ec H vx vr ps rs s rbs a c xs w) (hk:k≤s.size) (O:Obj):LpN w0 tb eb ec H vx vr ps rs s rbs a c xs l O w a xs.length c [] l k (w.alloc O):=
 ⟨rfl,hk,by simp,by rw[List.append_nil];exact h.below (za1 _ _),KpN.of_kpM (KpM.of_below (za1 _ _)),.inl (by simp),za4 _ _⟩
theorem LpN.listed {a:Option Addr} {c:Nat} {xs l:List Nod} {O:Obj} {w:World} {a':Option Addr} {n' c':Nat} {dn l1 lr:List Nod} {kk:Nat} {wr w3:World} {e:Ending} (h:LpN w0 tb eb ec H vx vr ps rs s rbs a c xs l O w a' n' c' dn (l1++lr) kk wr) (hh:H≤w.heap.size) (ho:some w.heap.size≠obS a xs.length c) (hP:NdPost w0 tb eb ec H vx vr ps rs s rbs a' c' (xs++dn) l1 wr e w3):∃ a3 n3 c3,e = .returned (.slice a3 n3 c3)∧Hid (LpN w0 tb eb ec H vx vr ps rs s rbs a c xs l O w a3 n3 c3 (dn++l1) lr kk w3):=by
 obtain⟨a3,c3,rfl,h1,h2,h3⟩:=hP
 have hl:=za7 h.own
 have hob:some w.heap.size≠obS a' (xs++dn).length c':=by
  rcases h.at_ with e | ⟨g,e,hg⟩
  ·rw[e];exact ho
  ·rw[e];intro e2;have:=Option.some.inj e2;omega
 rw[List.append_assoc] at h1 h3
 refine⟨a3,_,c3,rfl,hideP ⟨by rw[h.all,List.append_assoc],h.kle,by simp,h1,h.kp.trans h2 ?_,?_,?_⟩⟩
 ·rcases h.at_ with e | ⟨g,e,hg⟩
  ·exact .inl e
  ·exact .inr ⟨g,e,by omega⟩
 ·rcases h3 with e | ⟨g,e,hg⟩
  ·rcases h.at_ with e2 | ⟨g,e2,hg⟩
   ·exact .inl (e.trans e2)
   ·exact .inr ⟨g,e.trans e2,hg⟩
  ·exact .inr ⟨g,e,by omega⟩
 ·rw[h2.block _ hl (fun hb=>by have:=h.nd.rlt _ hb;omega) hob];exact h.own
theorem LpN.triedM {a:Option Addr} {c:Nat} {xs l:List Nod} {O:Obj} {w:World} {a':Option Addr} {n' c':Nat} {dn lr:List Nod} {kk k2:Nat} {wr w3:World} (h:LpN w0 tb eb ec H vx vr ps rs s rbs a c xs l O w a' n' c' dn lr kk wr) (hh:H≤w.heap.size) (hs:Stt w0 tb eb ec vx vr ps rs s rbs w3) (hk:KpM rbs wr.heap.size wr w3) (hk2:k2≤s.size):LpN w0 tb eb ec H vx vr ps rs s rbs a c xs l O w a' n' c' dn lr k2 w3:=by
 refine⟨h.all,hk2,h.len,h.nd.kpM hs hk,h.kp.trans (KpN.of_kpM hk) (.inl rfl),h.at_,?_⟩
 rw[hk.block _ (za7 h.own) (fun hb=>by have:=h.nd.rlt _ hb;omega)];exact h.own
theorem LpN.post {a:Option Addr} {c:Nat} {xs l:List Nod} {O:Obj} {w:World} {a':Option Addr} {n' c':Nat} {dn:List Nod} {kk:Nat} {wr:World} (h:LpN w0 tb eb ec H vx vr ps rs s rbs a c xs l O w a' n' c' dn [] kk wr):NdPost w0 tb eb ec H vx vr ps rs s rbs a c xs l w (.returned (.slice a' n' c')) wr:=by
 have e:=h.all
 rw[List.append_nil] at e
 subst e
 refine⟨a',c',by rw[h.len],h.nd,h.kp,?_⟩
 rcases h.at_ with e | ⟨g,e,hg⟩
 ·exact .inl e
 ·exact .inr ⟨g,e,by omega⟩
theorem nodes_seq (hE:Env w0 B gb vx vr ps rs s rbs) (f:Nat) (hT:TryC w0 tb eb ec vx vr ps rs s rbs f) (hN:zd8 w0 tb eb ec H vx vr ps rs s rbs f) (w:World) (i k d:Nat) (a:Option Addr) (c:Nat) (xs l:List Nod) (e:RE) (h:NdS w0 tb eb ec H vx vr ps rs s rbs a c xs w) (hk:k≤s.size) (hx:(xsOf ps)[i]? = some e) (hok:okE (nmOf rs) e=true) (hkd:e.kind=5)
  (hl:seqD (evS ps rs s f) (fun i k=>ndS ps rs s f i k d) e.parts k=some l) (hxl:xs.length+l.length≤100000) (hdl:d+l.length≤100000) :
  Calls Tryz.prog 76 #[.pointer (some ⟨tb,0,none⟩),.int .i64 i,.int .i64 k,.int .i64 d,.slice a xs.length c] w (NdPost w0 tb eb ec H vx vr ps rs s rbs a c xs l w):=by
 obtain⟨xg,xc,ia,ic,pa,pc,hi,rfl,hxgl,c0,c1,c2,c3,c4,hpn,hpc,hit,hil,_,_,hkn⟩:=h.st.exq hE hx hok
 obtain⟨htl,hsz,hold,q⟩:=h.st.cells
 have hpl:=hE.ple
 have hsl:=hE.sle
 have hil':(i:Int)<ps.length:=by omega
 have HTT:=hideP hT
 have HNN:=hideP hN
 have q0:w.cell? ⟨tb,0,none⟩=some (.slice (some ⟨xg,0,none⟩) ps.length xc):=q 0
 have hw:=h.hle
 have HOB:Hid (some w.heap.size≠obS a xs.length c):=hideP (fun e=>Nat.lt_irrefl _ (h.row.lt _ e.symm).2)
 rw[hkd] at c0
 obtain⟨parts,hparts⟩:∃ parts,parts=e.parts:=⟨_,rfl⟩
 rw[← hparts] at c4 hl hpn
 have HPC2:Hid (∀ j (hj:j<parts.length),∃ pg,pa=some ⟨pg,0,none⟩∧pg<w0.heap.size∧w0.cell? ⟨pg,j,none⟩=some (.int .i64 parts[j])):=by rw[hparts];exact hpc
 clear hpc hit hkn hT q hold hkd hparts hN
 generalize e.items.length=il at *
 generalize rfE (nmOf rs) e 0=z at *
 generalize e.text=tx at *
 have HS0:=hideP (LpN.start (l:=l) h hk (Obj.cells #[.int .i64 5,.slice ia il ic,.string ⟨tx.toArray⟩,.int .i64 z,.slice pa parts.length pc] 149 (0,0)))
 have HL:=hideP hl
 clear h hx hE hl hok
 go_enter Tryz.func76,Tryz.ntmps76
 go_wp2_with fail
 go_loopg [2,4,14] parts.length (fun m va vl vj wr=>∃ (j kk:Nat) (a':Option Addr) (n' c':Nat) (dn lr:List Nod),m=parts.length - j∧va = .int .i64 kk∧vl = .slice a' n' c'∧vj = .int .i64 j∧j≤parts.length∧Hid (seqD (evS ps rs s f) (fun i k=>ndS ps rs s f i k d) (parts.drop j) kk=some lr)∧Hid (LpN w0 tb eb ec H (.slice (some ⟨xg,0,none⟩) ps.length xc) vr ps rs s rbs a c xs l (Obj.cells #[.int .i64 5,.slice ia il ic,.string ⟨tx.toArray⟩,.int .i64 z,.slice pa parts.length pc] 149 (0,0)) w a' n' c' dn lr kk wr))
 case atStart=>exact⟨0,k,a,xs.length,c,[],l,by omega,rfl,rfl,rfl,by omega,HL,HS0⟩
 case round=>
  obtain⟨j,kk,a',n',c',dn,lr,rfl,rfl,rfl,rfl,hj,HSQ,HI⟩:=hrel
  obtain⟨htl2,hsz2,hold2,_⟩:=HI.out.nd.st.cells
  have o4:wr.cell? ⟨w.heap.size,4,none⟩=some (.slice pa parts.length pc):=za0 HI.out.own 4
  have lo2:=za3 HI.out.own
  by_cases hlt:j<parts.length
  ·have hlt':(j:Int)<parts.length:=by omega
   obtain⟨pg,rfl,hpg,hcell⟩:=HPC2.out j hlt
   have hcell2:wr.cell? ⟨pg,j,none⟩=some (.int .i64 parts[j]):=by rw[World.cell?_of_block (a:=⟨pg,j,none⟩) (hold2 pg hpg)];exact hcell
   have hpg3:pg<wr.heap.size:=by omega
   have hsq:=HSQ.out
   rw[List.drop_eq_getElem_cons hlt] at hsq
   simp only[seqD] at hsq
   obtain⟨e1,l1,lr',hv1,hd1,hr1,hlr⟩:∃ e1 l1 lr',evS ps rs s f parts[j] kk=some (some e1)∧ndS ps rs s f parts[j] kk d=some l1∧seqD (evS ps rs s f) (fun i k=>ndS ps rs s f i k d) (parts.drop (j+1)) e1=some lr'∧lr=l1++lr':=by
    cases hF:evS ps rs s f parts[j] kk with
    | none=>rw[hF] at hsq;cases hsq
    | some o=>
     rw[hF] at hsq
     cases o with
     | none=>cases hsq
     | some e1=>
      simp only[] at hsq
      cases hG:ndS ps rs s f parts[j] kk d with
      | none=>rw[hG] at hsq;cases hsq
      | some l1=>
       rw[hG] at hsq
       simp only[] at hsq
       cases hS:seqD (evS ps rs s f) (fun i k=>ndS ps rs s f i k d) (parts.drop (j+1)) e1 with
       | none=>rw[hS] at hsq;cases hsq
       | some lr'=>rw[hS] at hsq;exact⟨e1,l1,lr',rfl,rfl,hS,(Option.some.inj hsq).symm⟩
   subst hlr
   have hal:=congrArg List.length HI.out.all
   simp only[List.length_append] at hal
   have hln:=HI.out.len
   have hcN:=HNN.out wr parts[j] kk d a' c' (xs++dn) l1 HI.out.nd HI.out.kle hd1 (by rw[List.length_append];omega) (by omega)
   rw[← hln] at hcN
   have HCN:=hideP (hcN.mono (fun e' w3 hP=>HI.out.listed hw HOB.out hP))
   have hle1:e1≤s.size:=(zbC _ _ _ _ hv1 (show kk≤s.data.toList.length from HI.out.kle)).2
   have HV1:=hideP hv1
   have HR1:=hideP hr1
   generalize parts[j]=pj at *
   clear hsq hv1 hd1 hr1 hold2 hcell hcN hal hln
   go_wp2_with fail
   refine HCN.out.mono ?_
   rintro _ w3 ⟨a3,n3,c3,rfl,HI3⟩
   have o43:w3.cell? ⟨w.heap.size,4,none⟩=some (.slice (some ⟨pg,0,none⟩) parts.length pc):=za0 HI3.out.own 4
   have lo3:=za3 HI3.out.own
   have hcell3:w3.cell? ⟨pg,j,none⟩=some (.int .i64 pj):=by
    have h1:=(HI3.out.nd.st.cells).2.2.1 pg hpg
    have h2:=(HI.out.nd.st.cells).2.2.1 pg hpg
    rw[World.cell?_of_block (a:=⟨pg,j,none⟩) (h1.trans h2.symm)];exact hcell2
   have hpg4:pg<w3.heap.size:=by have:=(HI3.out.nd.st.cells).2.1;omega
   have HTR:=hideP (HTT.out w3 pj kk (some e1) HI3.out.nd.st HI3.out.kle HV1.out)
   simp only[zaM] at HTR
   clear HCN hcell2 o4
   simp only[]
   go_wp2_with fail
   refine HTR.out.mono ?_
   rintro _ w4 ⟨rfl,hs4,hk4⟩
   have HN4:=hideP (HI3.out.triedM hw hs4 hk4 hle1)
   clear hs4 hk4 HTR hcell3 o43
   go_wp2_with fail
   go_roundg (parts.length - (j+1))
   case measure=>omega
   case rel=>exact⟨j+1,e1,a3,n3,c3,dn++l1,lr',rfl,rfl,rfl,by go_num,by omega,HR1,HN4⟩
  ·have hlt':¬ (j:Int)<parts.length:=by omega
   have hltd:decide ((j:Int)<parts.length)=false:=by simpa using hlt'
   have hsq:=HSQ.out
   rw[List.drop_of_length_le (by omega)] at hsq
   have:=Option.some.inj hsq
   subst this
   have HZ:=hideP HI.out.post
   clear hsq
   go_wp2_with fail
   go_ret
   exact HZ.out
end
section
variable {w0 : World} {B gb tb eb ec H : Nat} {vx vr : Value} {ps : List (RE × Value × Value)} {rs : List (Bytes × Nat)} {s : ByteArray} {rbs : List Nat}
theorem nodes_choice (hE:Env w0 B gb vx vr ps rs s rbs) (f:Nat) (hT:TryC w0 tb eb ec vx vr ps rs s rbs f) (hN:zd8 w0 tb eb ec H vx vr ps rs s rbs f) (w:World) (i k d:Nat) (a:Option Addr) (c:Nat) (xs l:List Nod) (e:RE) (h:NdS w0 tb eb ec H vx vr ps rs s rbs a c xs w) (hk:k≤s.size) (hx:(xsOf ps)[i]? = some e) (hok:okE (nmOf rs) e=true) (hkd:e.kind=6)
  (hl:chD (evS ps rs s f) (fun i k=>ndS ps rs s f i k d) e.parts k=some l) (hxl:xs.length+l.length≤100000) (hdl:d+l.length≤100000) :
  Calls Tryz.prog 76 #[.pointer (some ⟨tb,0,none⟩),.int .i64 i,.int .i64 k,.int .i64 d,.slice a xs.length c] w (NdPost w0 tb eb ec H vx vr ps rs s rbs a c xs l w):=by
 obtain⟨xg,xc,ia,ic,pa,pc,hi,rfl,hxgl,c0,c1,c2,c3,c4,hpn,hpc,hit,hil,_,_,hkn⟩:=h.st.exq hE hx hok
 obtain⟨htl,hsz,hold,q⟩:=h.st.cells
 have hpl:=hE.ple
 have hsl:=hE.sle
 have hil':(i:Int)<ps.length:=by omega
 have HTT:=hideP hT
 have HNN:=hideP hN
 have q0:w.cell? ⟨tb,0,none⟩=some (.slice (some ⟨xg,0,none⟩) ps.length xc):=q 0
 have hw:=h.hle
 have HOB:Hid (some w.heap.size≠obS a xs.length c):=hideP (fun e=>Nat.lt_irrefl _ (h.row.lt _ e.symm).2)
 rw[hkd] at c0
 obtain⟨parts,hparts⟩:∃ parts,parts=e.parts:=⟨_,rfl⟩
 rw[← hparts] at c4 hl hpn
 have HPC2:Hid (∀ j (hj:j<parts.length),∃ pg,pa=some ⟨pg,0,none⟩∧pg<w0.heap.size∧w0.cell? ⟨pg,j,none⟩=some (.int .i64 parts[j])):=by rw[hparts];exact hpc
 clear hpc hit hkn hT q hold hkd hparts hN
 generalize e.items.length=il at *
 generalize rfE (nmOf rs) e 0=z at *
 generalize e.text=tx at *
 have HS0:=hideP (LpN.start (l:=l) h hk (Obj.cells #[.int .i64 6,.slice ia il ic,.string ⟨tx.toArray⟩,.int .i64 z,.slice pa parts.length pc] 149 (0,0)))
 have HL:=hideP hl
 clear h hx hE hl hok
 go_enter Tryz.func76,Tryz.ntmps76
 go_wp2_with fail
 go_loopg [15] parts.length (fun m vj wr=>∃ (j:Nat),m=parts.length - j∧vj = .int .i64 j∧j≤parts.length∧Hid (chD (evS ps rs s f) (fun i k=>ndS ps rs s f i k d) (parts.drop j) k=some l)∧Hid (LpN w0 tb eb ec H (.slice (some ⟨xg,0,none⟩) ps.length xc) vr ps rs s rbs a c xs l (Obj.cells #[.int .i64 6,.slice ia il ic,.string ⟨tx.toArray⟩,.int .i64 z,.slice pa parts.length pc] 149 (0,0)) w a xs.length c [] l k wr))
 case atStart=>exact⟨0,by omega,rfl,by omega,HL,HS0⟩
 case round=>
  obtain⟨j,rfl,rfl,hj,HSQ,HI⟩:=hrel
  obtain⟨htl2,hsz2,hold2,_⟩:=HI.out.nd.st.cells
  have o4:wr.cell? ⟨w.heap.size,4,none⟩=some (.slice pa parts.length pc):=za0 HI.out.own 4
  have lo2:=za3 HI.out.own
  by_cases hlt:j<parts.length
  ·have hlt':(j:Int)<parts.length:=by omega
   obtain⟨pg,rfl,hpg,hcell⟩:=HPC2.out j hlt
   have hcell2:wr.cell? ⟨pg,j,none⟩=some (.int .i64 parts[j]):=by rw[World.cell?_of_block (a:=⟨pg,j,none⟩) (hold2 pg hpg)];exact hcell
   have hpg3:pg<wr.heap.size:=by omega
   have hsq:=HSQ.out
   rw[List.drop_eq_getElem_cons hlt] at hsq
   simp only[chD] at hsq
   obtain⟨o,hv1,hr1⟩:∃ o,evS ps rs s f parts[j] k=some o∧(match o with | none=>chD (evS ps rs s f) (fun i k=>ndS ps rs s f i k d) (parts.drop (j+1)) k=some l | some _=>ndS ps rs s f parts[j] k d=some l):=by
    cases hF:evS ps rs s f parts[j] k with
    | none=>rw[hF] at hsq;cases hsq
    | some o=>
     rw[hF] at hsq
     exact⟨o,rfl,by cases o<;>exact hsq⟩
   have HTR:=hideP (HTT.out wr parts[j] k o HI.out.nd.st hk hv1)
   have HPJ:Hid (∀ w3,LpN w0 tb eb ec H (.slice (some ⟨xg,0,none⟩) ps.length xc) vr ps rs s rbs a c xs l (Obj.cells #[.int .i64 6,.slice ia il ic,.string ⟨tx.toArray⟩,.int .i64 z,.slice (some ⟨pg,0,none⟩) parts.length pc] 149 (0,0)) w a xs.length c [] l k w3→w3.cell? ⟨pg,j,none⟩=some (.int .i64 parts[j])∧pg<w3.heap.size):=hideP (fun w3 h3=>by
    refine⟨?_,by have:=(h3.nd.st.cells).2.1;omega⟩
    rw[World.cell?_of_block (a:=⟨pg,j,none⟩) ((h3.nd.st.cells).2.2.1 pg hpg)];exact hcell)
   cases o with
   | none=>
    have HR1:=hideP hr1
    simp only[] at HR1
    simp only[zbb] at HTR
    generalize parts[j]=pj at *
    clear hsq hv1 hr1 hold2 hcell HPJ
    go_wp2_with fail
    refine HTR.out.mono ?_
    rintro _ w4 ⟨rfl,hs4,hk4⟩
    have HN4:=hideP (HI.out.triedM hw hs4 hk4 hk)
    clear hs4 hk4 HTR
    go_wp2_with fail
    go_roundg (parts.length - (j+1))
    case measure=>omega
    case rel=>exact⟨j+1,rfl,by go_num,by omega,HR1,HN4⟩
   | some y=>
    have HR1:=hideP hr1
    simp only[] at HR1
    simp only[zaM] at HTR
    have hy:(0:Int)≤(y:Int):=by omega
    have HCN:Hid (∀ w3,LpN w0 tb eb ec H (.slice (some ⟨xg,0,none⟩) ps.length xc) vr ps rs s rbs a c xs l (Obj.cells #[.int .i64 6,.slice ia il ic,.string ⟨tx.toArray⟩,.int .i64 z,.slice (some ⟨pg,0,none⟩) parts.length pc] 149 (0,0)) w a xs.length c [] l k w3→Calls Tryz.prog 76 #[.pointer (some ⟨tb,0,none⟩),.int .i64 parts[j],.int .i64 k,.int .i64 d,.slice a xs.length c] w3 fun e' w5=>∃ a5 n5 c5,e' = .returned (.slice a5 n5 c5)∧Hid (NdPost w0 tb eb ec H (.slice (some ⟨xg,0,none⟩) ps.length xc) vr ps rs s rbs a c xs l w (.returned (.slice a5 n5 c5)) w5)):=hideP (fun w3 h3=>by
     have hnd:=h3.nd
     rw[List.append_nil] at hnd
     refine (HNN.out w3 parts[j] k d a c xs l hnd hk HR1.out hxl hdl).mono (fun e' w5 hP=>?_)
     have:=NdPost.go (a1:=a) (c1:=c) (l:=[]) (l2:=l) h3.kp (.inl (by simp)) (by rw[List.append_nil];exact hP)
     exact this.form)
    generalize parts[j]=pj at *
    clear hsq hv1 hr1 hold2 hcell
    go_wp2_with fail
    refine HTR.out.mono ?_
    rintro _ w4 ⟨rfl,hs4,hk4⟩
    have HN4:=hideP (HI.out.triedM hw hs4 hk4 hk)
    obtain⟨hc4,hl4⟩:=HPJ.out _ HN4.out
    have o44:w4.cell? ⟨w.heap.size,4,none⟩=some (.slice (some ⟨pg,0,none⟩) parts.length pc):=za0 HN4.out.own 4
    have lo4:=za3 HN4.out.own
    have HCC:=hideP (HCN.out _ HN4.out)
    clear hs4 hk4 HTR HCN HPJ hcell2 o4
    go_wp2_with fail
    refine HCC.out.mono ?_
    rintro _ w5 ⟨a5,n5,c5,rfl,HZ⟩
    clear HCC
    simp only[]
    go_wp2_with fail
    go_ret
    exact HZ.out
  ·have hlt':¬ (j:Int)<parts.length:=by omega
   have hltd:decide ((j:Int)<parts.length)=false:=by simpa using hlt'
   have hsq:=HSQ.out
   rw[List.drop_of_length_le (by omega)] at hsq
   have:=Option.some.inj hsq
   subst this
   have HZ:=hideP HI.out.post
   clear hsq
   go_wp2_with fail
   go_ret
   exact HZ.out
end
section
variable {w0 : World} {B gb tb eb ec H : Nat} {vx vr : Value} {ps : List (RE × Value × Value)} {rs : List (Bytes × Nat)} {s : ByteArray} {rbs : List Nat}
theorem nodes_rep (hE:Env w0 B gb vx vr ps rs s rbs) (f:Nat) (hT:TryC w0 tb eb ec vx vr ps rs s rbs f) (hN:zd8 w0 tb eb ec H vx vr ps rs s rbs f) (w:World) (i k d:Nat) (a:Option Addr) (c:Nat) (xs l:List Nod) (e:RE) (h:NdS w0 tb eb ec H vx vr ps rs s rbs a c xs w) (hk:k≤s.size) (hx:(xsOf ps)[i]? = some e) (hok:okE (nmOf rs) e=true) (hkd:e.kind=7∨e.kind=8∨e.kind=9)
  (hl:repD (evS ps rs s f) (fun i k=>ndS ps rs s f i k d) (e.parts.headD 0) (e.kind == 7) f k=some l) (hxl:xs.length+l.length≤100000) (hdl:d+l.length≤100000) :
  Calls Tryz.prog 76 #[.pointer (some ⟨tb,0,none⟩),.int .i64 i,.int .i64 k,.int .i64 d,.slice a xs.length c] w (NdPost w0 tb eb ec H vx vr ps rs s rbs a c xs l w):=by
 obtain⟨xg,xc,ia,ic,pa,pc,hi,rfl,hxgl,c0,c1,c2,c3,c4,hpn,hpc,hit,hil,_,hp1,hkn⟩:=h.st.exq hE hx hok
 obtain⟨htl,hsz,hold,q⟩:=h.st.cells
 obtain⟨p0,hp0⟩:=hp1 (by omega)
 have hpl:=hE.ple
 have hsl:=hE.sle
 have hil':(i:Int)<ps.length:=by omega
 have HTT:=hideP hT
 have HNN:=hideP hN
 have q0:w.cell? ⟨tb,0,none⟩=some (.slice (some ⟨xg,0,none⟩) ps.length xc):=q 0
 have hw:=h.hle
 have HOB:Hid (some w.heap.size≠obS a xs.length c):=hideP (fun e=>Nat.lt_irrefl _ (h.row.lt _ e.symm).2)
 obtain⟨pg,rfl,hpg,hcell⟩:=hpc 0 (by rw[hp0];simp)
 rw[hp0] at c4 hl
 simp only[hp0,List.getElem_cons_zero] at hcell
 simp only[List.length_singleton,List.headD_cons] at c4 hl
 clear hpc hit hkn hT q hold hN
 generalize e.items.length=il at *
 generalize rfE (nmOf rs) e 0=z at *
 generalize e.text=tx at *
 have HS0:=hideP (LpN.start (l:=l) h hk (Obj.cells #[.int .i64 e.kind,.slice ia il ic,.string ⟨tx.toArray⟩,.int .i64 z,.slice (some ⟨pg,0,none⟩) 1 pc] 149 (0,0)))
 have HPJ:Hid (∀ (O:Obj) (a':Option Addr) (n' c':Nat) (dn lr:List Nod) (kk:Nat) (w3:World),LpN w0 tb eb ec H (.slice (some ⟨xg,0,none⟩) ps.length xc) vr ps rs s rbs a c xs l O w a' n' c' dn lr kk w3→w3.cell? ⟨pg,0,none⟩=some (.int .i64 p0)∧pg<w3.heap.size):=hideP (fun O a' n' c' dn lr kk w3 h3=>by
  refine⟨?_,by have:=(h3.nd.st.cells).2.1;omega⟩
  rw[World.cell?_of_block (a:=⟨pg,0,none⟩) ((h3.nd.st.cells).2.2.1 pg hpg)];exact hcell)
 have HL:=hideP hl
 obtain⟨kd,hkd2⟩:∃ kd,kd=e.kind:=⟨_,rfl⟩
 rw[← hkd2] at HS0 HL c0 hkd
 clear h hx hE hl hok hcell hp0 hkd2
 rcases hkd with rfl | rfl | rfl
 all_goals
  go_enter Tryz.func76,Tryz.ntmps76
  go_wp2_with fail
 ·go_loopg [2,4] f (fun m va vl wr=>∃ (cc kk:Nat) (a':Option Addr) (n' c':Nat) (dn lr:List Nod),cc=m∧va = .int .i64 kk∧vl = .slice a' n' c'∧Hid (repD (evS ps rs s f) (fun i k=>ndS ps rs s f i k d) p0 true cc kk=some lr)∧Hid (LpN w0 tb eb ec H (.slice (some ⟨xg,0,none⟩) ps.length xc) vr ps rs s rbs a c xs l (Obj.cells #[.int .i64 ((7:Nat):Int),.slice ia il ic,.string ⟨tx.toArray⟩,.int .i64 z,.slice (some ⟨pg,0,none⟩) 1 pc] 149 (0,0)) w a' n' c' dn lr kk wr))
  case atStart=>exact⟨f,k,a,xs.length,c,[],l,rfl,rfl,rfl,HL,HS0⟩
  case round=>
   obtain⟨cc,kk,a',n',c',dn,lr,rfl,rfl,rfl,HSQ,HI⟩:=hrel
   cases cc with
   | zero=>have:=HSQ.out;simp[repD] at this
   | succ c1=>
    have hsq:=HSQ.out
    simp only[repD] at hsq
    obtain⟨o,hv1,hr1⟩:∃ o,evS ps rs s f p0 kk=some o∧(match o with | none=>lr=[] | some e1=>∃ l1,ndS ps rs s f p0 kk d=some l1∧lr=l1):=by
     cases hF:evS ps rs s f p0 kk with
     | none=>rw[hF] at hsq;cases hsq
     | some o=>
     rw[hF] at hsq
     cases o with
     | none=>exact⟨none,rfl,(Option.some.inj hsq).symm⟩
     | some e1=>
     simp only[] at hsq
     cases hG:ndS ps rs s f p0 kk d with
     | none=>rw[hG] at hsq;cases hsq
     | some l1=>
      rw[hG] at hsq
      simp only[Bool.false_eq_true,if_false,if_true] at hsq
      exact⟨some e1,rfl,l1,rfl,(Option.some.inj hsq).symm⟩
    have HTR:=hideP (HTT.out wr p0 kk o HI.out.nd.st HI.out.kle hv1)
    have o4:wr.cell? ⟨w.heap.size,4,none⟩=some (.slice (some ⟨pg,0,none⟩) 1 pc):=za0 HI.out.own 4
    have lo2:=za3 HI.out.own
    obtain⟨hc2,hl2⟩:=HPJ.out _ _ _ _ _ _ _ _ HI.out
    have HV1:=hideP hv1
    cases o with
    | none=>
     have hlr:lr=[]:=hr1
     subst hlr
     simp only[zbb] at HTR
     clear hsq hv1 hr1
     go_wp2_with fail
     refine HTR.out.mono ?_
     rintro _ w4 ⟨rfl,hs4,hk4⟩
     have HZ:=hideP (HI.out.triedM hw hs4 hk4 HI.out.kle).post
     clear hs4 hk4 HTR
     go_wp2_with fail
     go_ret
     exact HZ.out
    | some e1=>
     simp only[zaM] at HTR
     obtain⟨l1,hd1,hlr⟩:=hr1
     obtain⟨lr',hlr'⟩:∃ lr':List Nod,lr=l1++lr'∧lr'=[]:=⟨[],by rw[hlr,List.append_nil],rfl⟩
     obtain⟨hlr2,hlr3⟩:=hlr'
     subst hlr2
     have hy:(0:Int)≤(e1:Int):=by omega
     have hle1:e1≤s.size:=(zbC _ _ _ _ hv1 (show kk≤s.data.toList.length from HI.out.kle)).2
     have hal:=congrArg List.length HI.out.all
     simp only[List.length_append] at hal
     have HCN:Hid (∀ w4,LpN w0 tb eb ec H (.slice (some ⟨xg,0,none⟩) ps.length xc) vr ps rs s rbs a c xs l (Obj.cells #[.int .i64 ((7:Nat):Int),.slice ia il ic,.string ⟨tx.toArray⟩,.int .i64 z,.slice (some ⟨pg,0,none⟩) 1 pc] 149 (0,0)) w a' n' c' dn (l1++lr') kk w4→Calls Tryz.prog 76 #[.pointer (some ⟨tb,0,none⟩),.int .i64 p0,.int .i64 kk,.int .i64 d,.slice a' n' c'] w4 fun e' w5=>∃ a5 n5 c5,e' = .returned (.slice a5 n5 c5)∧Hid (LpN w0 tb eb ec H (.slice (some ⟨xg,0,none⟩) ps.length xc) vr ps rs s rbs a c xs l (Obj.cells #[.int .i64 ((7:Nat):Int),.slice ia il ic,.string ⟨tx.toArray⟩,.int .i64 z,.slice (some ⟨pg,0,none⟩) 1 pc] 149 (0,0)) w a5 n5 c5 (dn++l1) lr' kk w5)):=hideP (fun w4 h4=>by
      have hcN:=HNN.out w4 p0 kk d a' c' (xs++dn) l1 h4.nd h4.kle hd1 (by rw[List.length_append];omega) (by omega)
      rw[← h4.len] at hcN
      exact hcN.mono (fun e' w3 hP=>h4.listed hw HOB.out hP))
     have HL3:=hideP hlr3
     clear hlr3
     clear hsq hv1 hd1 hal
     go_wp2_with fail
     refine HTR.out.mono ?_
     rintro _ w4 ⟨rfl,hs4,hk4⟩
     have HN4:=hideP (HI.out.triedM hw hs4 hk4 HI.out.kle)
     obtain⟨hc4,hl4⟩:=HPJ.out _ _ _ _ _ _ _ _ HN4.out
     have o44:w4.cell? ⟨w.heap.size,4,none⟩=some (.slice (some ⟨pg,0,none⟩) 1 pc):=za0 HN4.out.own 4
     have lo4:=za3 HN4.out.own
     have HCC:=hideP (HCN.out _ HN4.out)
     clear hs4 hk4 HTR HCN hc2 o4
     go_wp2_with fail
     refine HCC.out.mono ?_
     rintro _ w5 ⟨a5,n5,c5,rfl,HN5⟩
     obtain⟨hc5,hl5⟩:=HPJ.out _ _ _ _ _ _ _ _ HN5.out
     have o45:w5.cell? ⟨w.heap.size,4,none⟩=some (.slice (some ⟨pg,0,none⟩) 1 pc):=za0 HN5.out.own 4
     have lo5:=za3 HN5.out.own
     have HT5:=hideP (HTT.out w5 p0 kk (some e1) HN5.out.nd.st HN5.out.kle HV1.out)
     simp only[zaM] at HT5
     clear HCC hc4 o44
     simp only[]
     go_wp2_with fail
     refine HT5.out.mono ?_
     rintro _ w6 ⟨rfl,hs6,hk6⟩
     have HN6:=hideP (HN5.out.triedM hw hs6 hk6 hle1)
     have o06:w6.cell? ⟨w.heap.size,0,none⟩=some (.int .i64 ((7:Nat):Int)):=za0 HN6.out.own 0
     have lo6:=za3 HN6.out.own
     clear hs6 hk6 HT5 hc5 o45
     have hlr3:=HL3.out
     subst hlr3
     have HZ:=hideP HN6.out.post
     go_wp2_with fail
     go_ret
     exact HZ.out
 ·go_loopg [2,4] f (fun m va vl wr=>∃ (cc kk:Nat) (a':Option Addr) (n' c':Nat) (dn lr:List Nod),cc=m∧va = .int .i64 kk∧vl = .slice a' n' c'∧Hid (repD (evS ps rs s f) (fun i k=>ndS ps rs s f i k d) p0 false cc kk=some lr)∧Hid (LpN w0 tb eb ec H (.slice (some ⟨xg,0,none⟩) ps.length xc) vr ps rs s rbs a c xs l (Obj.cells #[.int .i64 ((8:Nat):Int),.slice ia il ic,.string ⟨tx.toArray⟩,.int .i64 z,.slice (some ⟨pg,0,none⟩) 1 pc] 149 (0,0)) w a' n' c' dn lr kk wr))
  case atStart=>exact⟨f,k,a,xs.length,c,[],l,rfl,rfl,rfl,HL,HS0⟩
  case round=>
   obtain⟨cc,kk,a',n',c',dn,lr,rfl,rfl,rfl,HSQ,HI⟩:=hrel
   cases cc with
   | zero=>have:=HSQ.out;simp[repD] at this
   | succ c1=>
    have hsq:=HSQ.out
    simp only[repD] at hsq
    obtain⟨o,hv1,hr1⟩:∃ o,evS ps rs s f p0 kk=some o∧(match o with | none=>lr=[] | some e1=>∃ l1,ndS ps rs s f p0 kk d=some l1∧∃ lr',repD (evS ps rs s f) (fun i k=>ndS ps rs s f i k d) p0 false c1 e1=some lr'∧lr=l1++lr'):=by
     cases hF:evS ps rs s f p0 kk with
     | none=>rw[hF] at hsq;cases hsq
     | some o=>
     rw[hF] at hsq
     cases o with
     | none=>exact⟨none,rfl,(Option.some.inj hsq).symm⟩
     | some e1=>
     simp only[] at hsq
     cases hG:ndS ps rs s f p0 kk d with
     | none=>rw[hG] at hsq;cases hsq
     | some l1=>
      rw[hG] at hsq
      simp only[Bool.false_eq_true,if_false,if_true] at hsq
      cases hS:repD (evS ps rs s f) (fun i k=>ndS ps rs s f i k d) p0 false c1 e1 with
      | none=>rw[hS] at hsq;cases hsq
      | some lr'=>rw[hS] at hsq;exact⟨some e1,rfl,l1,rfl,lr',hS,(Option.some.inj hsq).symm⟩
    have HTR:=hideP (HTT.out wr p0 kk o HI.out.nd.st HI.out.kle hv1)
    have o4:wr.cell? ⟨w.heap.size,4,none⟩=some (.slice (some ⟨pg,0,none⟩) 1 pc):=za0 HI.out.own 4
    have lo2:=za3 HI.out.own
    obtain⟨hc2,hl2⟩:=HPJ.out _ _ _ _ _ _ _ _ HI.out
    have HV1:=hideP hv1
    cases o with
    | none=>
     have hlr:lr=[]:=hr1
     subst hlr
     simp only[zbb] at HTR
     clear hsq hv1 hr1
     go_wp2_with fail
     refine HTR.out.mono ?_
     rintro _ w4 ⟨rfl,hs4,hk4⟩
     have HZ:=hideP (HI.out.triedM hw hs4 hk4 HI.out.kle).post
     clear hs4 hk4 HTR
     go_wp2_with fail
     go_ret
     exact HZ.out
    | some e1=>
     simp only[zaM] at HTR
     obtain⟨l1,hd1,lr',hrr,hlr⟩:=hr1
     subst hlr
     have HRR:=hideP hrr
     have hy:(0:Int)≤(e1:Int):=by omega
     have hle1:e1≤s.size:=(zbC _ _ _ _ hv1 (show kk≤s.data.toList.length from HI.out.kle)).2
     have hal:=congrArg List.length HI.out.all
     simp only[List.length_append] at hal
     have HCN:Hid (∀ w4,LpN w0 tb eb ec H (.slice (some ⟨xg,0,none⟩) ps.length xc) vr ps rs s rbs a c xs l (Obj.cells #[.int .i64 ((8:Nat):Int),.slice ia il ic,.string ⟨tx.toArray⟩,.int .i64 z,.slice (some ⟨pg,0,none⟩) 1 pc] 149 (0,0)) w a' n' c' dn (l1++lr') kk w4→Calls Tryz.prog 76 #[.pointer (some ⟨tb,0,none⟩),.int .i64 p0,.int .i64 kk,.int .i64 d,.slice a' n' c'] w4 fun e' w5=>∃ a5 n5 c5,e' = .returned (.slice a5 n5 c5)∧Hid (LpN w0 tb eb ec H (.slice (some ⟨xg,0,none⟩) ps.length xc) vr ps rs s rbs a c xs l (Obj.cells #[.int .i64 ((8:Nat):Int),.slice ia il ic,.string ⟨tx.toArray⟩,.int .i64 z,.slice (some ⟨pg,0,none⟩) 1 pc] 149 (0,0)) w a5 n5 c5 (dn++l1) lr' kk w5)):=hideP (fun w4 h4=>by
      have hcN:=HNN.out w4 p0 kk d a' c' (xs++dn) l1 h4.nd h4.kle hd1 (by rw[List.length_append];omega) (by omega)
      rw[← h4.len] at hcN
      exact hcN.mono (fun e' w3 hP=>h4.listed hw HOB.out hP))
     clear hsq hv1 hd1 hal
     go_wp2_with fail
     refine HTR.out.mono ?_
     rintro _ w4 ⟨rfl,hs4,hk4⟩
     have HN4:=hideP (HI.out.triedM hw hs4 hk4 HI.out.kle)
     obtain⟨hc4,hl4⟩:=HPJ.out _ _ _ _ _ _ _ _ HN4.out
     have o44:w4.cell? ⟨w.heap.size,4,none⟩=some (.slice (some ⟨pg,0,none⟩) 1 pc):=za0 HN4.out.own 4
     have lo4:=za3 HN4.out.own
     have HCC:=hideP (HCN.out _ HN4.out)
     clear hs4 hk4 HTR HCN hc2 o4
     go_wp2_with fail
     refine HCC.out.mono ?_
     rintro _ w5 ⟨a5,n5,c5,rfl,HN5⟩
     obtain⟨hc5,hl5⟩:=HPJ.out _ _ _ _ _ _ _ _ HN5.out
     have o45:w5.cell? ⟨w.heap.size,4,none⟩=some (.slice (some ⟨pg,0,none⟩) 1 pc):=za0 HN5.out.own 4
     have lo5:=za3 HN5.out.own
     have HT5:=hideP (HTT.out w5 p0 kk (some e1) HN5.out.nd.st HN5.out.kle HV1.out)
     simp only[zaM] at HT5
     clear HCC hc4 o44
     simp only[]
     go_wp2_with fail
     refine HT5.out.mono ?_
     rintro _ w6 ⟨rfl,hs6,hk6⟩
     have HN6:=hideP (HN5.out.triedM hw hs6 hk6 hle1)
     have o06:w6.cell? ⟨w.heap.size,0,none⟩=some (.int .i64 ((8:Nat):Int)):=za0 HN6.out.own 0
     have lo6:=za3 HN6.out.own
     clear hs6 hk6 HT5 hc5 o45
     go_wp2_with fail
     go_roundg c1
     case measure=>omega
     case rel=>exact⟨c1,e1,a5,n5,c5,dn++l1,lr',rfl,rfl,rfl,HRR,HN6⟩
 ·go_loopg [2,4] f (fun m va vl wr=>∃ (cc kk:Nat) (a':Option Addr) (n' c':Nat) (dn lr:List Nod),cc=m∧va = .int .i64 kk∧vl = .slice a' n' c'∧Hid (repD (evS ps rs s f) (fun i k=>ndS ps rs s f i k d) p0 false cc kk=some lr)∧Hid (LpN w0 tb eb ec H (.slice (some ⟨xg,0,none⟩) ps.length xc) vr ps rs s rbs a c xs l (Obj.cells #[.int .i64 ((9:Nat):Int),.slice ia il ic,.string ⟨tx.toArray⟩,.int .i64 z,.slice (some ⟨pg,0,none⟩) 1 pc] 149 (0,0)) w a' n' c' dn lr kk wr))
  case atStart=>exact⟨f,k,a,xs.length,c,[],l,rfl,rfl,rfl,HL,HS0⟩
  case round=>
   obtain⟨cc,kk,a',n',c',dn,lr,rfl,rfl,rfl,HSQ,HI⟩:=hrel
   cases cc with
   | zero=>have:=HSQ.out;simp[repD] at this
   | succ c1=>
    have hsq:=HSQ.out
    simp only[repD] at hsq
    obtain⟨o,hv1,hr1⟩:∃ o,evS ps rs s f p0 kk=some o∧(match o with | none=>lr=[] | some e1=>∃ l1,ndS ps rs s f p0 kk d=some l1∧∃ lr',repD (evS ps rs s f) (fun i k=>ndS ps rs s f i k d) p0 false c1 e1=some lr'∧lr=l1++lr'):=by
     cases hF:evS ps rs s f p0 kk with
     | none=>rw[hF] at hsq;cases hsq
     | some o=>
     rw[hF] at hsq
     cases o with
     | none=>exact⟨none,rfl,(Option.some.inj hsq).symm⟩
     | some e1=>
     simp only[] at hsq
     cases hG:ndS ps rs s f p0 kk d with
     | none=>rw[hG] at hsq;cases hsq
     | some l1=>
      rw[hG] at hsq
      simp only[Bool.false_eq_true,if_false,if_true] at hsq
      cases hS:repD (evS ps rs s f) (fun i k=>ndS ps rs s f i k d) p0 false c1 e1 with
      | none=>rw[hS] at hsq;cases hsq
      | some lr'=>rw[hS] at hsq;exact⟨some e1,rfl,l1,rfl,lr',hS,(Option.some.inj hsq).symm⟩
    have HTR:=hideP (HTT.out wr p0 kk o HI.out.nd.st HI.out.kle hv1)
    have o4:wr.cell? ⟨w.heap.size,4,none⟩=some (.slice (some ⟨pg,0,none⟩) 1 pc):=za0 HI.out.own 4
    have lo2:=za3 HI.out.own
    obtain⟨hc2,hl2⟩:=HPJ.out _ _ _ _ _ _ _ _ HI.out
    have HV1:=hideP hv1
    cases o with
    | none=>
     have hlr:lr=[]:=hr1
     subst hlr
     simp only[zbb] at HTR
     clear hsq hv1 hr1
     go_wp2_with fail
     refine HTR.out.mono ?_
     rintro _ w4 ⟨rfl,hs4,hk4⟩
     have HZ:=hideP (HI.out.triedM hw hs4 hk4 HI.out.kle).post
     clear hs4 hk4 HTR
     go_wp2_with fail
     go_ret
     exact HZ.out
    | some e1=>
     simp only[zaM] at HTR
     obtain⟨l1,hd1,lr',hrr,hlr⟩:=hr1
     subst hlr
     have HRR:=hideP hrr
     have hy:(0:Int)≤(e1:Int):=by omega
     have hle1:e1≤s.size:=(zbC _ _ _ _ hv1 (show kk≤s.data.toList.length from HI.out.kle)).2
     have hal:=congrArg List.length HI.out.all
     simp only[List.length_append] at hal
     have HCN:Hid (∀ w4,LpN w0 tb eb ec H (.slice (some ⟨xg,0,none⟩) ps.length xc) vr ps rs s rbs a c xs l (Obj.cells #[.int .i64 ((9:Nat):Int),.slice ia il ic,.string ⟨tx.toArray⟩,.int .i64 z,.slice (some ⟨pg,0,none⟩) 1 pc] 149 (0,0)) w a' n' c' dn (l1++lr') kk w4→Calls Tryz.prog 76 #[.pointer (some ⟨tb,0,none⟩),.int .i64 p0,.int .i64 kk,.int .i64 d,.slice a' n' c'] w4 fun e' w5=>∃ a5 n5 c5,e' = .returned (.slice a5 n5 c5)∧Hid (LpN w0 tb eb ec H (.slice (some ⟨xg,0,none⟩) ps.length xc) vr ps rs s rbs a c xs l (Obj.cells #[.int .i64 ((9:Nat):Int),.slice ia il ic,.string ⟨tx.toArray⟩,.int .i64 z,.slice (some ⟨pg,0,none⟩) 1 pc] 149 (0,0)) w a5 n5 c5 (dn++l1) lr' kk w5)):=hideP (fun w4 h4=>by
      have hcN:=HNN.out w4 p0 kk d a' c' (xs++dn) l1 h4.nd h4.kle hd1 (by rw[List.length_append];omega) (by omega)
      rw[← h4.len] at hcN
      exact hcN.mono (fun e' w3 hP=>h4.listed hw HOB.out hP))
     clear hsq hv1 hd1 hal
     go_wp2_with fail
     refine HTR.out.mono ?_
     rintro _ w4 ⟨rfl,hs4,hk4⟩
     have HN4:=hideP (HI.out.triedM hw hs4 hk4 HI.out.kle)
     obtain⟨hc4,hl4⟩:=HPJ.out _ _ _ _ _ _ _ _ HN4.out
     have o44:w4.cell? ⟨w.heap.size,4,none⟩=some (.slice (some ⟨pg,0,none⟩) 1 pc):=za0 HN4.out.own 4
     have lo4:=za3 HN4.out.own
     have HCC:=hideP (HCN.out _ HN4.out)
     clear hs4 hk4 HTR HCN hc2 o4
     go_wp2_with fail
     refine HCC.out.mono ?_
     rintro _ w5 ⟨a5,n5,c5,rfl,HN5⟩
     obtain⟨hc5,hl5⟩:=HPJ.out _ _ _ _ _ _ _ _ HN5.out
     have o45:w5.cell? ⟨w.heap.size,4,none⟩=some (.slice (some ⟨pg,0,none⟩) 1 pc):=za0 HN5.out.own 4
     have lo5:=za3 HN5.out.own
     have HT5:=hideP (HTT.out w5 p0 kk (some e1) HN5.out.nd.st HN5.out.kle HV1.out)
     simp only[zaM] at HT5
     clear HCC hc4 o44
     simp only[]
     go_wp2_with fail
     refine HT5.out.mono ?_
     rintro _ w6 ⟨rfl,hs6,hk6⟩
     have HN6:=hideP (HN5.out.triedM hw hs6 hk6 hle1)
     have o06:w6.cell? ⟨w.heap.size,0,none⟩=some (.int .i64 ((9:Nat):Int)):=za0 HN6.out.own 0
     have lo6:=za3 HN6.out.own
     clear hs6 hk6 HT5 hc5 o45
     go_wp2_with fail
     go_roundg c1
     case measure=>omega
     case rel=>exact⟨c1,e1,a5,n5,c5,dn++l1,lr',rfl,rfl,rfl,HRR,HN6⟩
theorem nodes_step (hE:Env w0 B gb vx vr ps rs s rbs) (f:Nat) (hN:zd8 w0 tb eb ec H vx vr ps rs s rbs f):zd8 w0 tb eb ec H vx vr ps rs s rbs (f+1):=by
 intro w i k d a c xs l h hk hl hxl hdl
 have hT:=try_all (tb:=tb) (eb:=eb) (ec:=ec) hE f
 rw[ndS,ndR] at hl
 cases hx:(xsOf ps)[i]? with
 | none=>rw[hx] at hl;cases hl
 | some e=>
  rw[hx] at hl
  simp only[] at hl
  split at hl
  rotate_left
  ·cases hl
  rename_i ho
  unfold bodyD at hl
  by_cases h4:e.kind=4
  ·rw[if_pos h4] at hl
   split at hl
   ·rename_i n hv
    exact nodes_name hE f hT hN w i k d a c xs l e n h hk hx ho h4 hv hl hxl hdl (by omega)
   ·cases hl
  rw[if_neg h4] at hl
  by_cases h5:e.kind=5
  ·rw[if_pos h5] at hl
   exact nodes_seq hE f hT hN w i k d a c xs l e h hk hx ho h5 hl hxl hdl
  rw[if_neg h5] at hl
  by_cases h6:e.kind=6
  ·rw[if_pos h6] at hl
   exact nodes_choice hE f hT hN w i k d a c xs l e h hk hx ho h6 hl hxl hdl
  rw[if_neg h6] at hl
  by_cases h7 : 7≤e.kind∧e.kind≤9
  ·rw[if_pos h7] at hl
   exact nodes_rep hE f hT hN w i k d a c xs l e h hk hx ho (by omega) hl hxl hdl
  rw[if_neg h7] at hl
  have:=Option.some.inj hl
  subst this
  exact nodes_leaf hE w i k d a c xs e h hx ho (by omega) (by simpa using hxl)
theorem nodes_all (hE:Env w0 B gb vx vr ps rs s rbs):∀ f,zd8 w0 tb eb ec H vx vr ps rs s rbs f
 | 0=>fun _ _ _ _ _ _ _ _ _ _ hl _ _=>by simp[ndR] at hl
 | f+1=>nodes_step hE f (nodes_all hE f)
end
end Go.Proofs.YtiganlkabilblaaGreatDoor
