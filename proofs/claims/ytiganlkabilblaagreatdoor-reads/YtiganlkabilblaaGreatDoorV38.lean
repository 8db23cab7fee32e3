import Derived.Test.YtiganlkabilblaaGreatDoorV32
import Derived.Test.YtiganlkabilblaaGreatDoorV30
import Derived.Test.YtiganlkabilblaaGreatDoorV37
import Derived.BigQuiet
import Derived.Test.YtiganlkabilblaaGreatDoorV29
import Derived.Laws.OwnMore
set_option linter.all false
set_option maxHeartbeats 64000000
set_option maxRecDepth 100000
namespace Go.Proofs.YtiganlkabilblaaGreatDoor
open Go.RowKit Thk
attribute [local go_sem ↓] Go.wp_at_zero Go.wp_at_succ
section
variable {w0 : World} {B gb tb eb ec H : Nat} {vx vr : Value} {ps : List (RE × Value × Value)} {rs : List (z7 × Nat)} {s : ByteArray} {rbs : List Nat}
structure KpN (rbs:List Nat) (ob:Option Nat) (w w':World):Prop where
 os:w'.os=w.os
 tape:w'.tape=w.tape
 output:w'.output=w.output
 size:w.heap.size≤w'.heap.size
 block:∀ b,b<w.heap.size→b ∉ rbs→some b≠ob→w'.heap[b]? = w.heap[b]?
theorem KpN.of_kpM {ob:Option Nat} {w w':World} (h:KpM rbs w.heap.size w w'):KpN rbs ob w w':=⟨h.os,h.tape,h.output,h.size,fun b hb hn _=>h.block b hb hn⟩
theorem KpN.trans {ob ob1:Option Nat} {w w1 w2:World} (h:KpN rbs ob w w1) (h1:KpN rbs ob1 w1 w2) (ho:ob1=ob∨∃ g,ob1=some g∧w.heap.size≤g):KpN rbs ob w w2:=by
 refine⟨h1.os.trans h.os,h1.tape.trans h.tape,h1.output.trans h.output,Nat.le_trans h.size h1.size,fun b hb hn hr=>?_⟩
 rw[h1.block b (Nat.lt_of_lt_of_le hb h.size) hn,h.block b hb hn hr]
 rcases ho with rfl | ⟨g,rfl,hg⟩
 ·exact hr
 ·intro e;have:=Option.some.inj e;omega
theorem KpN.grown {ob:Option Nat} {X w6:World} {O:Obj} (h:(X.alloc O).grownBy w6 ob):KpN rbs ob X w6:=by
 have hs:=h.size
 simp at hs
 exact⟨h.os,h.tape,h.output,by omega,fun b hb _ hr=>by rw[h.block b (by simp;omega) hr,zm _ _ hb]⟩
structure NdS (w0:World) (tb eb ec H:Nat) (vx vr:Value) (ps:List (RE × Value × Value)) (rs:List (z7 × Nat)) (s:ByteArray) (rbs:List Nat) (a:Option Addr) (c:Nat) (xs:List Nod) (w:World):Prop where
 st:Stt w0 tb eb ec vx vr ps rs s rbs w
 row:w.ownsRow H 60 4 (.slice a xs.length c) xs.length (xs.flatMap ZZ)
 tlt:tb<H
 elt:eb<H
 rlt:∀ b ∈ rbs,b<H
 wle:w0.heap.size≤H
 hle:H≤w.heap.size
theorem Stt.low {w w':World} (h:Stt w0 tb eb ec vx vr ps rs s rbs w) (tlt:tb<H) (elt:eb<H) (rlt:∀ b ∈ rbs,b<H) (wle:w0.heap.size≤H) (hs:w.heap.size≤w'.heap.size) (hb:∀ b,b<H→w'.heap[b]? = w.heap[b]?):Stt w0 tb eb ec vx vr ps rs s rbs w':=by
 obtain⟨M,h1,h2⟩:=h
 refine⟨M,⟨Nat.le_trans h1.size hs,fun b hb'=>by rw[hb b (by omega)];exact h1.old b hb',by rw[hb _ tlt];exact h1.blk,Nat.lt_of_lt_of_le h1.elt hs,fun i hi=>?_,fun i hi=>?_,h1.nodup,h1.rge,h1.tn,h1.en⟩,h2⟩
 ·rw[World.cell?_of_block (a:=⟨eb,i,none⟩) (hb eb elt)];exact h1.ends i hi
 ·rw[hb _ (rlt _ (List.getElem_mem hi))];exact h1.row i hi
theorem NdS.kpM {a:Option Addr} {c:Nat} {xs:List Nod} {w w':World} (h:NdS w0 tb eb ec H vx vr ps rs s rbs a c xs w) (h':Stt w0 tb eb ec vx vr ps rs s rbs w') (hk:KpM rbs w.heap.size w w'):NdS w0 tb eb ec H vx vr ps rs s rbs a c xs w':=
 ⟨h',Z6 h.row (fun g hg=>hk.block g (h.row.lt g hg).2 (fun hb=>by have:=h.rlt g hb;have:=(h.row.lt g hg).1;omega)),h.tlt,h.elt,h.rlt,h.wle,Nat.le_trans h.hle hk.size⟩
theorem NdS.below {a:Option Addr} {c:Nat} {xs:List Nod} {w w':World} (h:NdS w0 tb eb ec H vx vr ps rs s rbs a c xs w) (hb:Below w.heap.size w w'):NdS w0 tb eb ec H vx vr ps rs s rbs a c xs w':=
 h.kpM (h.st.below hb) (KpM.of_below hb)
theorem NdS.push {a:Option Addr} {c:Nat} {xs:List Nod} {X w6:World} {g cap:Nat} {z:Nod} {O:Obj} (h:NdS w0 tb eb ec H vx vr ps rs s rbs a c xs X) (hown:w6.ownsRow H 60 4 (.slice (some ⟨g,0,none⟩) (xs.length+1) cap) (xs.length+1) (xs.flatMap ZZ++ZZ z)) (hg:(X.alloc O).grownBy w6 (obS a xs.length c)):NdS w0 tb eb ec H vx vr ps rs s rbs (some ⟨g,0,none⟩) cap (xs++[z]) w6:=by
 have hs:=hg.size
 simp at hs
 have hh:=h.hle
 refine⟨h.st.low h.tlt h.elt h.rlt h.wle (by omega) (fun b hb=>?_),by rw[zbB,List.length_append];exact hown,h.tlt,h.elt,h.rlt,h.wle,by omega⟩
 rw[hg.block b (by simp;omega) (fun e=>by have:=(h.row.lt b e.symm).1;omega),zm _ _ (by omega)]
def Qq (w0:World) (tb eb ec H:Nat) (vx vr:Value) (ps:List (RE × Value × Value)) (rs:List (z7 × Nat)) (s:ByteArray) (rbs:List Nat) (a:Option Addr) (c:Nat) (xs l:List Nod) (w:World) (e:Ending) (w':World):Prop:=∃ a' c',e = .returned (.slice a' (xs++l).length c')∧NdS w0 tb eb ec H vx vr ps rs s rbs a' c' (xs++l) w'∧KpN rbs (obS a xs.length c) w w'∧(obS a' (xs++l).length c'=obS a xs.length c∨∃ g,obS a' (xs++l).length c'=some g∧w.heap.size≤g)
abbrev ndS (ps:List (RE × Value × Value)) (rs:List (z7 × Nat)) (s:ByteArray):Nat→Nat→Nat→Nat→Option (List Nod):=ndR (zK ps) (zj rs) (Zp rs) s.data.toList
def K7 (w0:World) (tb eb ec H:Nat) (vx vr:Value) (ps:List (RE × Value × Value)) (rs:List (z7 × Nat)) (s:ByteArray) (rbs:List Nat) (f:Nat):Prop:=
 ∀ (w:World) (i k d:Nat) (a:Option Addr) (c:Nat) (xs l:List Nod),NdS w0 tb eb ec H vx vr ps rs s rbs a c xs w→k≤s.size→ndS ps rs s f i k d=some l→xs.length+l.length≤100000→d+l.length≤100000 →
  Calls Tryz.prog 76 #[.pointer (some ⟨tb,0,none⟩),.int .i64 i,.int .i64 k,.int .i64 d,.slice a xs.length c] w (Qq w0 tb eb ec H vx vr ps rs s rbs a c xs l w)
theorem Qq.go {a:Option Addr} {c:Nat} {xs l l2:List Nod} {w w1 w2:World} {a1:Option Addr} {c1:Nat} {e:Ending} (hk:KpN rbs (obS a xs.length c) w w1) (ho:obS a1 (xs++l).length c1=obS a xs.length c∨∃ g,obS a1 (xs++l).length c1=some g∧w.heap.size≤g) (h:Qq w0 tb eb ec H vx vr ps rs s rbs a1 c1 (xs++l) l2 w1 e w2):Qq w0 tb eb ec H vx vr ps rs s rbs a c xs (l++l2) w e w2:=by
 obtain⟨a',c',he,h1,h2,h3⟩:=h
 rw[List.append_assoc] at h1 h3 he
 refine⟨a',c',he,h1,hk.trans h2 ho,?_⟩
 rcases h3 with e | ⟨g,e,hg⟩
 ·rcases ho with e2 | ⟨g,e2,hg⟩
  ·exact .inl (e.trans e2)
  ·exact .inr ⟨g,e.trans e2,hg⟩
 ·exact .inr ⟨g,e,Nat.le_trans hk.size hg⟩
theorem Qq.form {a:Option Addr} {c:Nat} {xs l:List Nod} {w w':World} {e:Ending} (h:Qq w0 tb eb ec H vx vr ps rs s rbs a c xs l w e w'):∃ a' n' c',e = .returned (.slice a' n' c')∧Hid (Qq w0 tb eb ec H vx vr ps rs s rbs a c xs l w (.returned (.slice a' n' c')) w'):=by
 obtain⟨a',c',he,h1⟩:=h
 exact⟨a',_,c',he,z6 ⟨a',c',rfl,h1⟩⟩
theorem zgQ (hE:Env w0 B gb vx vr ps rs s rbs) (w:World) (i k d:Nat) (a:Option Addr) (c:Nat) (xs:List Nod) (e:RE) (h:NdS w0 tb eb ec H vx vr ps rs s rbs a c xs w) (hx:(zK ps)[i]? = some e) (hok:okE (zj rs) e=true) (hkd:e.kind≤3∨10≤e.kind) (hxl:xs.length≤100000) :
  Calls Tryz.prog 76 #[.pointer (some ⟨tb,0,none⟩),.int .i64 i,.int .i64 k,.int .i64 d,.slice a xs.length c] w (Qq w0 tb eb ec H vx vr ps rs s rbs a c xs [] w):=by
 obtain⟨xg,xc,ia,ic,pa,pc,hi,rfl,hxl,c0,c1,c2,c3,c4,hpn,hpc,hit,hil,_,_,hkn⟩:=h.st.exq hE hx hok
 obtain⟨htl,hsz,hold,q⟩:=h.st.cells
 have hpl:=hE.ple
 have hil':(i:Int)<ps.length:=by omega
 have q0:w.cell? ⟨tb,0,none⟩=some (.slice (some ⟨xg,0,none⟩) ps.length xc):=q 0
 have k4:((e.kind:Int) == 4)=false:=by simp;omega
 have k5:((e.kind:Int) == 5)=false:=by simp;omega
 have k6:((e.kind:Int) == 6)=false:=by simp;omega
 have k7:((e.kind:Int) == 7)=false:=by simp;omega
 have k8:((e.kind:Int) == 8)=false:=by simp;omega
 have k9:((e.kind:Int) == 9)=false:=by simp;omega
 have HZ:Hid (∀ O,Qq w0 tb eb ec H (.slice (some ⟨xg,0,none⟩) ps.length xc) vr ps rs s rbs a c xs [] w (.returned (.slice a xs.length c)) (w.alloc O)):=z6 (fun O=>⟨a,c,by simp,by rw[List.append_nil];exact h.below (zc _ _),KpN.of_kpM (KpM.of_below (zc _ _)),.inl (by simp)⟩)
 clear hok hit hpc h hx hE hkn q hold hkd
 generalize (e.kind:Int)=kd at *
 generalize e.items.length=il at *
 generalize e.parts.length=pl at *
 generalize e.text=tx at *
 go_enter Tryz.func76,Tryz.ntmps76
 go_wp2_with fail
 go_ret
 exact HZ.out _
end
theorem zh5 {rbs:List Nat} {w w1:World} {O:Obj} {q:Nat} (hf:∀ b ∈ rbs,b<w.heap.size) (h:KpM rbs ((w.alloc O).drewN q).heap.size ((w.alloc O).drewN q) w1):w1.heap[w.heap.size]? = some O:=
 KpM.own (O:=O) hf ⟨h.os,h.tape,h.output,h.size,h.block⟩
section
variable {w0 : World} {B gb tb eb ec H : Nat} {vx vr : Value} {ps : List (RE × Value × Value)} {rs : List (z7 × Nat)} {s : ByteArray} {rbs : List Nat}
theorem zgR (hE:Env w0 B gb vx vr ps rs s rbs) (f:Nat) (hT:JM w0 tb eb ec vx vr ps rs s rbs f) (hN:K7 w0 tb eb ec H vx vr ps rs s rbs f) (w:World) (i k d:Nat) (a:Option Addr) (c:Nat) (xs l:List Nod) (e:RE) (n:Nat) (h:NdS w0 tb eb ec H vx vr ps rs s rbs a c xs w) (hk:k≤s.size) (hx:(zK ps)[i]? = some e) (hok:okE (zj rs) e=true) (hkd:e.kind=4)
  (hv:evS ps rs s f ((Zp rs).getD (idx0 (zj rs) e.text) 0) k=some (some n)) (hl:(if k<n then (ndS ps rs s f ((Zp rs).getD (idx0 (zj rs) e.text) 0) k (d+1)).map ((idx0 (zj rs) e.text,k,n,d) :: ·) else some [])=some l) (hxl:xs.length+l.length≤100000) (hdl:d+l.length≤100000) (hd:d≤100000) :
  Calls Tryz.prog 76 #[.pointer (some ⟨tb,0,none⟩),.int .i64 i,.int .i64 k,.int .i64 d,.slice a xs.length c] w (Qq w0 tb eb ec H vx vr ps rs s rbs a c xs l w):=by
 obtain⟨xg,xc,ia,ic,pa,pc,hi,rfl,hxgl,c0,c1,c2,c3,c4,hpn,hpc,hit,hil,_,_,hkn⟩:=h.st.exq hE hx hok
 obtain⟨htl,hsz,hold,q⟩:=h.st.cells
 obtain⟨i0,hi0,hz0,hz1,hz2⟩:=info_parts Tryz.infoNode
 have hpl:=hE.ple
 have hrl:=hE.rle
 have hsl:=hE.sle
 have hil':(i:Int)<ps.length:=by omega
 have hcn:=hkn hkd
 have hrf:=KU (names:=zj rs) hkd
 rw[if_pos hcn] at hrf
 have hx0:idx0 (zj rs) e.text=(zj rs).idxOf e.text:=by unfold idx0;rw[if_pos hcn]
 rw[hx0] at hv hl
 have hxl2:(zj rs).idxOf e.text<rs.length:=by
  have:=List.idxOf_lt_length_iff.2 (show e.text ∈ zj rs by simpa using hcn)
  simpa using this
 rw[hrf] at c3
 obtain⟨x,hxx⟩:∃ x,x=(zj rs).idxOf e.text:=⟨_,rfl⟩
 rw[← hxx] at c3 hv hxl2 hl
 have hbd:(Zp rs).getD x 0=rs[x].2:=by
  rw[List.getD_eq_getElem?_getD,List.getElem?_map,List.getElem?_eq_getElem hxl2];rfl
 rw[hbd] at hv hl
 obtain⟨rg,rc,hvr,_,hrgl⟩:=hE.gm.ruAt hE.rpos
 have hgm:=hE.gm
 subst hvr
 have d1:=(hgm.ruCells x hxl2).2
 have d1':w.cell? ⟨rg,x * 2+1,none⟩=some (.int .i64 rs[x].2):=by rw[World.cell?_of_block (a:=⟨rg,_,none⟩) (hold rg hrgl)];exact d1
 have hrg2:rg<w.heap.size:=by omega
 have hxl3:(x:Int)<rs.length:=by omega
 have hxn:¬ (x:Int)<0:=by omega
 have hle:=JO _ _ _ _ hv (show k≤s.data.toList.length from hk)
 have hle2:n≤s.size:=hle.2
 have HTR:=z6 (fun (O:Obj) (q:Nat)=>hT ((w.alloc O).drewN q) rs[x].2 k (some n) (h.st.below (below_drewN (zc w O) q)) hk hv)
 have HF:=z6 h.st.fresh
 have q0:w.cell? ⟨tb,0,none⟩=some (.slice (some ⟨xg,0,none⟩) ps.length xc):=q 0
 have q1:w.cell? ⟨tb,1,none⟩=some (.slice (some ⟨rg,0,none⟩) rs.length rc):=q 1
 have HNN:=z6 hN
 have HH:=z6 h
 have HL:=z6 hl
 have hw:=h.hle
 generalize rs[x].2=bd at *
 rw[hkd] at c0
 clear hok hit hpc h hx hE hkn hcn hrf hx0 hxx hbd hgm d1 hT hv q hold hkd hN hl
 generalize e.items.length=il at *
 generalize e.parts.length=pl at *
 generalize e.text=tx at *
 simp only[QI] at HTR
 go_enter Tryz.func76,Tryz.ntmps76
 go_wp2_with fail
 go_quiet (fail)
 go_wp2_with fail
 refine (HTR.out _ _).mono ?_
 rintro _ w1 ⟨rfl,hs1,hk1⟩
 have hk2:KpM rbs w.heap.size w w1:=KpM.go (KpM.of_below (below_drewN (zc w _) _)) hk1
 have hzw:=hk2.size
 have ho1:=zh5 HF.out hk1
 have o3:w1.cell? ⟨w.heap.size,3,none⟩=some (.int .i64 x):=z8 ho1 3
 have lo:=za ho1
 have HS1:=z6 (HH.out.kpM hs1 hk2)
 have HK2:=z6 hk2
 clear hs1 hk1 hk2 ho1 HTR
 by_cases hkn:k<n
 ·have hne:((n:Int) == (k:Int))=false:=by simp;omega
  have hl2:=HL.out
  rw[if_pos hkn] at hl2
  obtain⟨l',hl',hll⟩:∃ l',ndS ps rs s f bd k (d+1)=some l'∧l=(x,k,n,d)::l':=by
   cases hg:ndS ps rs s f bd k (d+1) with
   | none=>rw[hg] at hl2;cases hl2
   | some l'=>rw[hg] at hl2;exact⟨l',rfl,(Option.some.inj hl2).symm⟩
  subst hll
  simp only[List.length_cons] at hxl hdl
  have HLL:=z6 hl'
  have HOWN:=z6 HS1.out.row
  have HML:Hid (xs.length+1≤maxLen):=by show _≤_;unfold maxLen;omega
  have H1:Hid (∀ u ∈ ZZ (x,k,n,d),u.oneCell'=true):=z6 (by intro u hu;simp[ZZ] at hu;rcases hu with rfl | rfl | rfl | rfl<;>rfl)
  have hH1:=HS1.out.hle
  clear hl2 hl'
  go_wp2_with (first | (at_builtin;refine wpList_append_lies _ rfl _ _ 53 rfl H 60 i0 _ 4 32 Tryz.underlying53 hi0 hz0 hz1 hz2 rfl (by decide) _ _ _ rfl (HOWN.out.alloc _) ⟨w1.heap.size,0,none⟩ 1 1 (ZZ (x,k,n,d)) rfl rfl (World.news_of_block (zk w1 _)) H1.out (by decide) HML.out (by omega) (by simp;omega) (w1.heap.size+1) (by simp) ?_))
  intro g2 cap2 w6 hown1 hgrow hat hlt3
  have HS6:=z6 (HS1.out.push hown1 hgrow)
  have HK6:=z6 ((KpN.of_kpM (ob:=obS a xs.length c) HK2.out).trans (KpN.grown hgrow) (.inl rfl))
  have HA6:Hid (obS (some ⟨g2,0,none⟩) (xs++[(x,k,n,d)]).length cap2=obS a xs.length c∨∃ g,obS (some ⟨g2,0,none⟩) (xs++[(x,k,n,d)]).length cap2=some g∧w.heap.size≤g):=by
   rcases hat with e | e
   ·exact .inl e.symm
   ·exact .inr ⟨g2,rfl,by omega⟩
  have HC:=z6 (HNN.out w6 bd k (d+1) _ _ _ l' HS6.out hk HLL.out (by simp;omega) (by omega))
  rw[List.length_append] at HC
  simp only[List.length_singleton] at HC
  clear hown1 hgrow hat hlt3
  go_wp2_with fail
  have hd1:((d:Int)+1)=((d+1:Nat):Int):=by omega
  rw[hd1]
  refine (HC.out.mono (fun e' w7 hP=>(Qq.go (l:=[(x,k,n,d)]) HK6.out HA6.out hP).form)).mono ?_
  rintro _ w7 ⟨a7,m7,c7,rfl,HZ⟩
  clear HC
  simp only[]
  go_wp2_with fail
  go_ret
  exact HZ.out
 ·have hnk:n=k:=by omega
  subst hnk
  have hl2:=HL.out
  rw[if_neg hkn] at hl2
  have:=Option.some.inj hl2
  subst this
  have HZ:Hid (Qq w0 tb eb ec H (.slice (some ⟨xg,0,none⟩) ps.length xc) (.slice (some ⟨rg,0,none⟩) rs.length rc) ps rs s rbs a c xs [] w (.returned (.slice a xs.length c)) w1):=z6 ⟨a,c,by simp,by rw[List.append_nil];exact HS1.out,KpN.of_kpM HK2.out,.inl (by simp)⟩
  go_wp2_with fail
  go_ret
  exact HZ.out
end
section
variable {w0 : World} {B gb tb eb ec H : Nat} {vx vr : Value} {ps : List (RE × Value × Value)} {rs : List (z7 × Nat)} {s : ByteArray} {rbs : List Nat}
structure LpN (w0:World) (tb eb ec H:Nat) (vx vr:Value) (ps:List (RE × Value × Value)) (rs:List (z7 × Nat)) (s:ByteArray) (rbs:List Nat) (a:Option Addr) (c:Nat) (xs l:List Nod) (O:Obj) (w:World) (a':Option Addr) (n' c':Nat) (dn lr:List Nod) (kk:Nat) (wr:World):Prop where
 all:l=dn++lr
 kle:kk≤s.size
 len:n'=(xs++dn).length
 nd:NdS w0 tb eb ec H vx vr ps rs s rbs a' c' (xs++dn) wr
 kp:KpN rbs (obS a xs.length c) w wr
 at_:obS a' (xs++dn).length c'=obS a xs.length c∨∃ g,obS a' (xs++dn).length c'=some g∧w.heap.size<g
 own:wr.heap[w.heap.size]? = some O
theorem LpN.start {a:Option Addr} {c:Nat} {xs l:List Nod} {w:World} {k:Nat} (h:NdS w0 tb eb ec H vx vr ps rs s rbs a c xs w) (hk:k≤s.size) (O:Obj):LpN w0 tb eb ec H vx vr ps rs s rbs a c xs l O w a xs.length c [] l k (w.alloc O):=
 ⟨rfl,hk,by simp,by rw[List.append_nil];exact h.below (zc _ _),KpN.of_kpM (KpM.of_below (zc _ _)),.inl (by simp),zk _ _⟩
theorem LpN.listed {a:Option Addr} {c:Nat} {xs l:List Nod} {O:Obj} {w:World} {a':Option Addr} {n' c':Nat} {dn l1 lr:List Nod} {kk:Nat} {wr w3:World} {e:Ending} (h:LpN w0 tb eb ec H vx vr ps rs s rbs a c xs l O w a' n' c' dn (l1++lr) kk wr) (hh:H≤w.heap.size) (ho:some w.heap.size≠obS a xs.length c) (hP:Qq w0 tb eb ec H vx vr ps rs s rbs a' c' (xs++dn) l1 wr e w3):∃ a3 n3 c3,e = .returned (.slice a3 n3 c3)∧Hid (LpN w0 tb eb ec H vx vr ps rs s rbs a c xs l O w a3 n3 c3 (dn++l1) lr kk w3):=by
 obtain⟨a3,c3,rfl,h1,h2,h3⟩:=hP
 have hl:=zd h.own
 have hob:some w.heap.size≠obS a' (xs++dn).length c':=by
  rcases h.at_ with e | ⟨g,e,hg⟩
  ·rw[e];exact ho
  ·rw[e];intro e2;have:=Option.some.inj e2;omega
 rw[List.append_assoc] at h1 h3
 refine⟨a3,_,c3,rfl,z6 ⟨by rw[h.all,List.append_assoc],h.kle,by simp,h1,h.kp.trans h2 ?_,?_,?_⟩⟩
 ·rcases h.at_ with e | ⟨g,e,hg⟩
  ·exact .inl e
  ·exact .inr ⟨g,e,by omega⟩
 ·rcases h3 with e | ⟨g,e,hg⟩
  ·rcases h.at_ with e2 | ⟨g,e2,hg⟩
   ·exact .inl (e.trans e2)
   ·exact .inr ⟨g,e.trans e2,hg⟩
  ·exact .inr ⟨g,e,by omega⟩
 ·rw[h2.block _ hl (fun hb=>by have:=h.nd.rlt _ hb;omega) hob];exact h.own
theorem LpN.triedM {a:Option Addr} {c:Nat} {xs l:List Nod} {O:Obj} {w:World} {a':Option Addr} {n' c':Nat} {dn lr:List Nod} {kk k2:Nat} {wr w3:World} (h:LpN w0 tb eb ec H vx vr ps rs s rbs a c xs l O w a' n' c' dn lr kk wr) (hh:H≤w.heap.size) (hs:Stt w0 tb eb ec vx vr ps rs s rbs w3) (hk:KpM rbs wr.heap.size wr w3) (hk2:k2≤s.size):LpN w0 tb eb ec H vx vr ps rs s rbs a c xs l O w a' n' c' dn lr k2 w3:=by
 refine⟨h.all,hk2,h.len,h.nd.kpM hs hk,h.kp.trans (KpN.of_kpM hk) (.inl rfl),h.at_,?_⟩
 rw[hk.block _ (zd h.own) (fun hb=>by have:=h.nd.rlt _ hb;omega)];exact h.own
theorem LpN.post {a:Option Addr} {c:Nat} {xs l:List Nod} {O:Obj} {w:World} {a':Option Addr} {n' c':Nat} {dn:List Nod} {kk:Nat} {wr:World} (h:LpN w0 tb eb ec H vx vr ps rs s rbs a c xs l O w a' n' c' dn [] kk wr):Qq w0 tb eb ec H vx vr ps rs s rbs a c xs l w (.returned (.slice a' n' c')) wr:=by
 have e:=h.all
 rw[List.append_nil] at e
 subst e
 refine⟨a',c',by rw[h.len],h.nd,h.kp,?_⟩
 rcases h.at_ with e | ⟨g,e,hg⟩
 ·exact .inl e
 ·exact .inr ⟨g,e,by omega⟩
theorem zgU (hE:Env w0 B gb vx vr ps rs s rbs) (f:Nat) (hT:JM w0 tb eb ec vx vr ps rs s rbs f) (hN:K7 w0 tb eb ec H vx vr ps rs s rbs f) (w:World) (i k d:Nat) (a:Option Addr) (c:Nat) (xs l:List Nod) (e:RE) (h:NdS w0 tb eb ec H vx vr ps rs s rbs a c xs w) (hk:k≤s.size) (hx:(zK ps)[i]? = some e) (hok:okE (zj rs) e=true) (hkd:e.kind=5)
  (hl:JC (evS ps rs s f) (fun i k=>ndS ps rs s f i k d) e.parts k=some l) (hxl:xs.length+l.length≤100000) (hdl:d+l.length≤100000) :
  Calls Tryz.prog 76 #[.pointer (some ⟨tb,0,none⟩),.int .i64 i,.int .i64 k,.int .i64 d,.slice a xs.length c] w (Qq w0 tb eb ec H vx vr ps rs s rbs a c xs l w):=by
 obtain⟨xg,xc,ia,ic,pa,pc,hi,rfl,hxgl,c0,c1,c2,c3,c4,hpn,hpc,hit,hil,_,_,hkn⟩:=h.st.exq hE hx hok
 obtain⟨htl,hsz,hold,q⟩:=h.st.cells
 have hpl:=hE.ple
 have hsl:=hE.sle
 have hil':(i:Int)<ps.length:=by omega
 have HTT:=z6 hT
 have HNN:=z6 hN
 have q0:w.cell? ⟨tb,0,none⟩=some (.slice (some ⟨xg,0,none⟩) ps.length xc):=q 0
 have hw:=h.hle
 have HOB:Hid (some w.heap.size≠obS a xs.length c):=z6 (fun e=>Nat.lt_irrefl _ (h.row.lt _ e.symm).2)
 rw[hkd] at c0
 obtain⟨parts,hparts⟩:∃ parts,parts=e.parts:=⟨_,rfl⟩
 rw[← hparts] at c4 hl hpn
 have HPC2:Hid (∀ j (hj:j<parts.length),∃ pg,pa=some ⟨pg,0,none⟩∧pg<w0.heap.size∧w0.cell? ⟨pg,j,none⟩=some (.int .i64 parts[j])):=by rw[hparts];exact hpc
 clear hpc hit hkn hT q hold hkd hparts hN
 generalize e.items.length=il at *
 generalize rfE (zj rs) e 0=z at *
 generalize e.text=tx at *
 have HS0:=z6 (LpN.start (l:=l) h hk (Obj.cells #[.int .i64 5,.slice ia il ic,.string ⟨tx.toArray⟩,.int .i64 z,.slice pa parts.length pc] 149 (0,0)))
 have HL:=z6 hl
 clear h hx hE hl hok
 go_enter Tryz.func76,Tryz.ntmps76
 go_wp2_with fail
 go_loopg [2,4,14] parts.length (fun m va vl vj wr=>∃ (j kk:Nat) (a':Option Addr) (n' c':Nat) (dn lr:List Nod),m=parts.length - j∧va = .int .i64 kk∧vl = .slice a' n' c'∧vj = .int .i64 j∧j≤parts.length∧Hid (JC (evS ps rs s f) (fun i k=>ndS ps rs s f i k d) (parts.drop j) kk=some lr)∧Hid (LpN w0 tb eb ec H (.slice (some ⟨xg,0,none⟩) ps.length xc) vr ps rs s rbs a c xs l (Obj.cells #[.int .i64 5,.slice ia il ic,.string ⟨tx.toArray⟩,.int .i64 z,.slice pa parts.length pc] 149 (0,0)) w a' n' c' dn lr kk wr))
 case atStart=>exact⟨0,k,a,xs.length,c,[],l,by omega,rfl,rfl,rfl,by omega,HL,HS0⟩
 case round=>
  obtain⟨j,kk,a',n',c',dn,lr,rfl,rfl,rfl,rfl,hj,HSQ,HI⟩:=hrel
  obtain⟨htl2,hsz2,hold2,_⟩:=HI.out.nd.st.cells
  have o4:wr.cell? ⟨w.heap.size,4,none⟩=some (.slice pa parts.length pc):=z8 HI.out.own 4
  have lo2:=za HI.out.own
  by_cases hlt:j<parts.length
  ·have hlt':(j:Int)<parts.length:=by omega
   obtain⟨pg,rfl,hpg,hcell⟩:=HPC2.out j hlt
   have hcell2:wr.cell? ⟨pg,j,none⟩=some (.int .i64 parts[j]):=by rw[World.cell?_of_block (a:=⟨pg,j,none⟩) (hold2 pg hpg)];exact hcell
   have hpg3:pg<wr.heap.size:=by omega
   have hsq:=HSQ.out
   rw[List.drop_eq_getElem_cons hlt] at hsq
   simp only[JC] at hsq
   obtain⟨e1,l1,lr',hv1,hd1,hr1,hlr⟩:∃ e1 l1 lr',evS ps rs s f parts[j] kk=some (some e1)∧ndS ps rs s f parts[j] kk d=some l1∧JC (evS ps rs s f) (fun i k=>ndS ps rs s f i k d) (parts.drop (j+1)) e1=some lr'∧lr=l1++lr':=by
    cases hF:evS ps rs s f parts[j] kk with
    | none=>rw[hF] at hsq;cases hsq
    | some o=>
     rw[hF] at hsq
     cases o with
     | none=>cases hsq
     | some e1=>
      simp only[] at hsq
      cases hG:ndS ps rs s f parts[j] kk d with
      | none=>rw[hG] at hsq;cases hsq
      | some l1=>
       rw[hG] at hsq
       simp only[] at hsq
       cases hS:JC (evS ps rs s f) (fun i k=>ndS ps rs s f i k d) (parts.drop (j+1)) e1 with
       | none=>rw[hS] at hsq;cases hsq
       | some lr'=>rw[hS] at hsq;exact⟨e1,l1,lr',rfl,rfl,hS,(Option.some.inj hsq).symm⟩
   subst hlr
   have hal:=congrArg List.length HI.out.all
   simp only[List.length_append] at hal
   have hln:=HI.out.len
   have hcN:=HNN.out wr parts[j] kk d a' c' (xs++dn) l1 HI.out.nd HI.out.kle hd1 (by rw[List.length_append];omega) (by omega)
   rw[← hln] at hcN
   have HCN:=z6 (hcN.mono (fun e' w3 hP=>HI.out.listed hw HOB.out hP))
   have hle1:e1≤s.size:=(JO _ _ _ _ hv1 (show kk≤s.data.toList.length from HI.out.kle)).2
   have HV1:=z6 hv1
   have HR1:=z6 hr1
   generalize parts[j]=pj at *
   clear hsq hv1 hd1 hr1 hold2 hcell hcN hal hln
   go_wp2_with fail
   refine HCN.out.mono ?_
   rintro _ w3 ⟨a3,n3,c3,rfl,HI3⟩
   have o43:w3.cell? ⟨w.heap.size,4,none⟩=some (.slice (some ⟨pg,0,none⟩) parts.length pc):=z8 HI3.out.own 4
   have lo3:=za HI3.out.own
   have hcell3:w3.cell? ⟨pg,j,none⟩=some (.int .i64 pj):=by
    have h1:=(HI3.out.nd.st.cells).2.2.1 pg hpg
    have h2:=(HI.out.nd.st.cells).2.2.1 pg hpg
    rw[World.cell?_of_block (a:=⟨pg,j,none⟩) (h1.trans h2.symm)];exact hcell2
   have hpg4:pg<w3.heap.size:=by have:=(HI3.out.nd.st.cells).2.1;omega
   have HTR:=z6 (HTT.out w3 pj kk (some e1) HI3.out.nd.st HI3.out.kle HV1.out)
   simp only[QI] at HTR
   clear HCN hcell2 o4
   simp only[]
   go_wp2_with fail
   refine HTR.out.mono ?_
   rintro _ w4 ⟨rfl,hs4,hk4⟩
   have HN4:=z6 (HI3.out.triedM hw hs4 hk4 hle1)
   clear hs4 hk4 HTR hcell3 o43
   go_wp2_with fail
   go_roundg (parts.length - (j+1))
   case measure=>omega
   case rel=>exact⟨j+1,e1,a3,n3,c3,dn++l1,lr',rfl,rfl,rfl,by go_num,by omega,HR1,HN4⟩
  ·have hlt':¬ (j:Int)<parts.length:=by omega
   have hltd:decide ((j:Int)<parts.length)=false:=by simpa using hlt'
   have hsq:=HSQ.out
   rw[List.drop_of_length_le (by omega)] at hsq
   have:=Option.some.inj hsq
   subst this
   have HZ:=z6 HI.out.post
   clear hsq
   go_wp2_with fail
   go_ret
   exact HZ.out
end
section
variable {w0 : World} {B gb tb eb ec H : Nat} {vx vr : Value} {ps : List (RE × Value × Value)} {rs : List (z7 × Nat)} {s : ByteArray} {rbs : List Nat}
theorem zgP (hE:Env w0 B gb vx vr ps rs s rbs) (f:Nat) (hT:JM w0 tb eb ec vx vr ps rs s rbs f) (hN:K7 w0 tb eb ec H vx vr ps rs s rbs f) (w:World) (i k d:Nat) (a:Option Addr) (c:Nat) (xs l:List Nod) (e:RE) (h:NdS w0 tb eb ec H vx vr ps rs s rbs a c xs w) (hk:k≤s.size) (hx:(zK ps)[i]? = some e) (hok:okE (zj rs) e=true) (hkd:e.kind=6)
  (hl:chD (evS ps rs s f) (fun i k=>ndS ps rs s f i k d) e.parts k=some l) (hxl:xs.length+l.length≤100000) (hdl:d+l.length≤100000) :
  Calls Tryz.prog 76 #[.pointer (some ⟨tb,0,none⟩),.int .i64 i,.int .i64 k,.int .i64 d,.slice a xs.length c] w (Qq w0 tb eb ec H vx vr ps rs s rbs a c xs l w):=by
 obtain⟨xg,xc,ia,ic,pa,pc,hi,rfl,hxgl,c0,c1,c2,c3,c4,hpn,hpc,hit,hil,_,_,hkn⟩:=h.st.exq hE hx hok
 obtain⟨htl,hsz,hold,q⟩:=h.st.cells
 have hpl:=hE.ple
 have hsl:=hE.sle
 have hil':(i:Int)<ps.length:=by omega
 have HTT:=z6 hT
 have HNN:=z6 hN
 have q0:w.cell? ⟨tb,0,none⟩=some (.slice (some ⟨xg,0,none⟩) ps.length xc):=q 0
 have hw:=h.hle
 have HOB:Hid (some w.heap.size≠obS a xs.length c):=z6 (fun e=>Nat.lt_irrefl _ (h.row.lt _ e.symm).2)
 rw[hkd] at c0
 obtain⟨parts,hparts⟩:∃ parts,parts=e.parts:=⟨_,rfl⟩
 rw[← hparts] at c4 hl hpn
 have HPC2:Hid (∀ j (hj:j<parts.length),∃ pg,pa=some ⟨pg,0,none⟩∧pg<w0.heap.size∧w0.cell? ⟨pg,j,none⟩=some (.int .i64 parts[j])):=by rw[hparts];exact hpc
 clear hpc hit hkn hT q hold hkd hparts hN
 generalize e.items.length=il at *
 generalize rfE (zj rs) e 0=z at *
 generalize e.text=tx at *
 have HS0:=z6 (LpN.start (l:=l) h hk (Obj.cells #[.int .i64 6,.slice ia il ic,.string ⟨tx.toArray⟩,.int .i64 z,.slice pa parts.length pc] 149 (0,0)))
 have HL:=z6 hl
 clear h hx hE hl hok
 go_enter Tryz.func76,Tryz.ntmps76
 go_wp2_with fail
 go_loopg [15] parts.length (fun m vj wr=>∃ (j:Nat),m=parts.length - j∧vj = .int .i64 j∧j≤parts.length∧Hid (chD (evS ps rs s f) (fun i k=>ndS ps rs s f i k d) (parts.drop j) k=some l)∧Hid (LpN w0 tb eb ec H (.slice (some ⟨xg,0,none⟩) ps.length xc) vr ps rs s rbs a c xs l (Obj.cells #[.int .i64 6,.slice ia il ic,.string ⟨tx.toArray⟩,.int .i64 z,.slice pa parts.length pc] 149 (0,0)) w a xs.length c [] l k wr))
 case atStart=>exact⟨0,by omega,rfl,by omega,HL,HS0⟩
 case round=>
  obtain⟨j,rfl,rfl,hj,HSQ,HI⟩:=hrel
  obtain⟨htl2,hsz2,hold2,_⟩:=HI.out.nd.st.cells
  have o4:wr.cell? ⟨w.heap.size,4,none⟩=some (.slice pa parts.length pc):=z8 HI.out.own 4
  have lo2:=za HI.out.own
  by_cases hlt:j<parts.length
  ·have hlt':(j:Int)<parts.length:=by omega
   obtain⟨pg,rfl,hpg,hcell⟩:=HPC2.out j hlt
   have hcell2:wr.cell? ⟨pg,j,none⟩=some (.int .i64 parts[j]):=by rw[World.cell?_of_block (a:=⟨pg,j,none⟩) (hold2 pg hpg)];exact hcell
   have hpg3:pg<wr.heap.size:=by omega
   have hsq:=HSQ.out
   rw[List.drop_eq_getElem_cons hlt] at hsq
   simp only[chD] at hsq
   obtain⟨o,hv1,hr1⟩:∃ o,evS ps rs s f parts[j] k=some o∧(match o with | none=>chD (evS ps rs s f) (fun i k=>ndS ps rs s f i k d) (parts.drop (j+1)) k=some l | some _=>ndS ps rs s f parts[j] k d=some l):=by
    cases hF:evS ps rs s f parts[j] k with
    | none=>rw[hF] at hsq;cases hsq
    | some o=>
     rw[hF] at hsq
     exact⟨o,rfl,by cases o<;>exact hsq⟩
   have HTR:=z6 (HTT.out wr parts[j] k o HI.out.nd.st hk hv1)
   have HPJ:Hid (∀ w3,LpN w0 tb eb ec H (.slice (some ⟨xg,0,none⟩) ps.length xc) vr ps rs s rbs a c xs l (Obj.cells #[.int .i64 6,.slice ia il ic,.string ⟨tx.toArray⟩,.int .i64 z,.slice (some ⟨pg,0,none⟩) parts.length pc] 149 (0,0)) w a xs.length c [] l k w3→w3.cell? ⟨pg,j,none⟩=some (.int .i64 parts[j])∧pg<w3.heap.size):=z6 (fun w3 h3=>by
    refine⟨?_,by have:=(h3.nd.st.cells).2.1;omega⟩
    rw[World.cell?_of_block (a:=⟨pg,j,none⟩) ((h3.nd.st.cells).2.2.1 pg hpg)];exact hcell)
   cases o with
   | none=>
    have HR1:=z6 hr1
    simp only[] at HR1
    simp only[JN] at HTR
    generalize parts[j]=pj at *
    clear hsq hv1 hr1 hold2 hcell HPJ
    go_wp2_with fail
    refine HTR.out.mono ?_
    rintro _ w4 ⟨rfl,hs4,hk4⟩
    have HN4:=z6 (HI.out.triedM hw hs4 hk4 hk)
    clear hs4 hk4 HTR
    go_wp2_with fail
    go_roundg (parts.length - (j+1))
    case measure=>omega
    case rel=>exact⟨j+1,rfl,by go_num,by omega,HR1,HN4⟩
   | some y=>
    have HR1:=z6 hr1
    simp only[] at HR1
    simp only[QI] at HTR
    have hy:(0:Int)≤(y:Int):=by omega
    have HCN:Hid (∀ w3,LpN w0 tb eb ec H (.slice (some ⟨xg,0,none⟩) ps.length xc) vr ps rs s rbs a c xs l (Obj.cells #[.int .i64 6,.slice ia il ic,.string ⟨tx.toArray⟩,.int .i64 z,.slice (some ⟨pg,0,none⟩) parts.length pc] 149 (0,0)) w a xs.length c [] l k w3→Calls Tryz.prog 76 #[.pointer (some ⟨tb,0,none⟩),.int .i64 parts[j],.int .i64 k,.int .i64 d,.slice a xs.length c] w3 fun e' w5=>∃ a5 n5 c5,e' = .returned (.slice a5 n5 c5)∧Hid (Qq w0 tb eb ec H (.slice (some ⟨xg,0,none⟩) ps.length xc) vr ps rs s rbs a c xs l w (.returned (.slice a5 n5 c5)) w5)):=z6 (fun w3 h3=>by
     have hnd:=h3.nd
     rw[List.append_nil] at hnd
     refine (HNN.out w3 parts[j] k d a c xs l hnd hk HR1.out hxl hdl).mono (fun e' w5 hP=>?_)
     have:=Qq.go (a1:=a) (c1:=c) (l:=[]) (l2:=l) h3.kp (.inl (by simp)) (by rw[List.append_nil];exact hP)
     exact this.form)
    generalize parts[j]=pj at *
    clear hsq hv1 hr1 hold2 hcell
    go_wp2_with fail
    refine HTR.out.mono ?_
    rintro _ w4 ⟨rfl,hs4,hk4⟩
    have HN4:=z6 (HI.out.triedM hw hs4 hk4 hk)
    obtain⟨hc4,hl4⟩:=HPJ.out _ HN4.out
    have o44:w4.cell? ⟨w.heap.size,4,none⟩=some (.slice (some ⟨pg,0,none⟩) parts.length pc):=z8 HN4.out.own 4
    have lo4:=za HN4.out.own
    have HCC:=z6 (HCN.out _ HN4.out)
    clear hs4 hk4 HTR HCN HPJ hcell2 o4
    go_wp2_with fail
    refine HCC.out.mono ?_
    rintro _ w5 ⟨a5,n5,c5,rfl,HZ⟩
    clear HCC
    simp only[]
    go_wp2_with fail
    go_ret
    exact HZ.out
  ·have hlt':¬ (j:Int)<parts.length:=by omega
   have hltd:decide ((j:Int)<parts.length)=false:=by simpa using hlt'
   have hsq:=HSQ.out
   rw[List.drop_of_length_le (by omega)] at hsq
   have:=Option.some.inj hsq
   subst this
   have HZ:=z6 HI.out.post
   clear hsq
   go_wp2_with fail
   go_ret
   exact HZ.out
end
section
variable {w0 : World} {B gb tb eb ec H : Nat} {vx vr : Value} {ps : List (RE × Value × Value)} {rs : List (z7 × Nat)} {s : ByteArray} {rbs : List Nat}
theorem zgT (hE:Env w0 B gb vx vr ps rs s rbs) (f:Nat) (hT:JM w0 tb eb ec vx vr ps rs s rbs f) (hN:K7 w0 tb eb ec H vx vr ps rs s rbs f) (w:World) (i k d:Nat) (a:Option Addr) (c:Nat) (xs l:List Nod) (e:RE) (h:NdS w0 tb eb ec H vx vr ps rs s rbs a c xs w) (hk:k≤s.size) (hx:(zK ps)[i]? = some e) (hok:okE (zj rs) e=true) (hkd:e.kind=7∨e.kind=8∨e.kind=9)
  (hl:ZM (evS ps rs s f) (fun i k=>ndS ps rs s f i k d) (e.parts.headD 0) (e.kind == 7) f k=some l) (hxl:xs.length+l.length≤100000) (hdl:d+l.length≤100000) :
  Calls Tryz.prog 76 #[.pointer (some ⟨tb,0,none⟩),.int .i64 i,.int .i64 k,.int .i64 d,.slice a xs.length c] w (Qq w0 tb eb ec H vx vr ps rs s rbs a c xs l w):=by
 obtain⟨xg,xc,ia,ic,pa,pc,hi,rfl,hxgl,c0,c1,c2,c3,c4,hpn,hpc,hit,hil,_,hp1,hkn⟩:=h.st.exq hE hx hok
 obtain⟨htl,hsz,hold,q⟩:=h.st.cells
 obtain⟨p0,hp0⟩:=hp1 (by omega)
 have hpl:=hE.ple
 have hsl:=hE.sle
 have hil':(i:Int)<ps.length:=by omega
 have HTT:=z6 hT
 have HNN:=z6 hN
 have q0:w.cell? ⟨tb,0,none⟩=some (.slice (some ⟨xg,0,none⟩) ps.length xc):=q 0
 have hw:=h.hle
 have HOB:Hid (some w.heap.size≠obS a xs.length c):=z6 (fun e=>Nat.lt_irrefl _ (h.row.lt _ e.symm).2)
 obtain⟨pg,rfl,hpg,hcell⟩:=hpc 0 (by rw[hp0];simp)
 rw[hp0] at c4 hl
 simp only[hp0,List.getElem_cons_zero] at hcell
 simp only[List.length_singleton,List.headD_cons] at c4 hl
 clear hpc hit hkn hT q hold hN
 generalize e.items.length=il at *
 generalize rfE (zj rs) e 0=z at *
 generalize e.text=tx at *
 have HS0:=z6 (LpN.start (l:=l) h hk (Obj.cells #[.int .i64 e.kind,.slice ia il ic,.string ⟨tx.toArray⟩,.int .i64 z,.slice (some ⟨pg,0,none⟩) 1 pc] 149 (0,0)))
 have HPJ:Hid (∀ (O:Obj) (a':Option Addr) (n' c':Nat) (dn lr:List Nod) (kk:Nat) (w3:World),LpN w0 tb eb ec H (.slice (some ⟨xg,0,none⟩) ps.length xc) vr ps rs s rbs a c xs l O w a' n' c' dn lr kk w3→w3.cell? ⟨pg,0,none⟩=some (.int .i64 p0)∧pg<w3.heap.size):=z6 (fun O a' n' c' dn lr kk w3 h3=>by
  refine⟨?_,by have:=(h3.nd.st.cells).2.1;omega⟩
  rw[World.cell?_of_block (a:=⟨pg,0,none⟩) ((h3.nd.st.cells).2.2.1 pg hpg)];exact hcell)
 have HL:=z6 hl
 obtain⟨kd,hkd2⟩:∃ kd,kd=e.kind:=⟨_,rfl⟩
 rw[← hkd2] at HS0 HL c0 hkd
 clear h hx hE hl hok hcell hp0 hkd2
 rcases hkd with rfl | rfl | rfl
 all_goals
  go_enter Tryz.func76,Tryz.ntmps76
  go_wp2_with fail
 ·go_loopg [2,4] f (fun m va vl wr=>∃ (cc kk:Nat) (a':Option Addr) (n' c':Nat) (dn lr:List Nod),cc=m∧va = .int .i64 kk∧vl = .slice a' n' c'∧Hid (ZM (evS ps rs s f) (fun i k=>ndS ps rs s f i k d) p0 true cc kk=some lr)∧Hid (LpN w0 tb eb ec H (.slice (some ⟨xg,0,none⟩) ps.length xc) vr ps rs s rbs a c xs l (Obj.cells #[.int .i64 ((7:Nat):Int),.slice ia il ic,.string ⟨tx.toArray⟩,.int .i64 z,.slice (some ⟨pg,0,none⟩) 1 pc] 149 (0,0)) w a' n' c' dn lr kk wr))
  case atStart=>exact⟨f,k,a,xs.length,c,[],l,rfl,rfl,rfl,HL,HS0⟩
  case round=>
   obtain⟨cc,kk,a',n',c',dn,lr,rfl,rfl,rfl,HSQ,HI⟩:=hrel
   cases cc with
   | zero=>have:=HSQ.out;simp[ZM] at this
   | succ c1=>
    have hsq:=HSQ.out
    simp only[ZM] at hsq
    obtain⟨o,hv1,hr1⟩:∃ o,evS ps rs s f p0 kk=some o∧(match o with | none=>lr=[] | some e1=>∃ l1,ndS ps rs s f p0 kk d=some l1∧lr=l1):=by
     cases hF:evS ps rs s f p0 kk with
     | none=>rw[hF] at hsq;cases hsq
     | some o=>
     rw[hF] at hsq
     cases o with
     | none=>exact⟨none,rfl,(Option.some.inj hsq).symm⟩
     | some e1=>
     simp only[] at hsq
     cases hG:ndS ps rs s f p0 kk d with
     | none=>rw[hG] at hsq;cases hsq
     | some l1=>
      rw[hG] at hsq
      simp only[Bool.false_eq_true,if_false,if_true] at hsq
      exact⟨some e1,rfl,l1,rfl,(Option.some.inj hsq).symm⟩
    have HTR:=z6 (HTT.out wr p0 kk o HI.out.nd.st HI.out.kle hv1)
    have o4:wr.cell? ⟨w.heap.size,4,none⟩=some (.slice (some ⟨pg,0,none⟩) 1 pc):=z8 HI.out.own 4
    have lo2:=za HI.out.own
    obtain⟨hc2,hl2⟩:=HPJ.out _ _ _ _ _ _ _ _ HI.out
    have HV1:=z6 hv1
    cases o with
    | none=>
     have hlr:lr=[]:=hr1
     subst hlr
     simp only[JN] at HTR
     clear hsq hv1 hr1
     go_wp2_with fail
     refine HTR.out.mono ?_
     rintro _ w4 ⟨rfl,hs4,hk4⟩
     have HZ:=z6 (HI.out.triedM hw hs4 hk4 HI.out.kle).post
     clear hs4 hk4 HTR
     go_wp2_with fail
     go_ret
     exact HZ.out
    | some e1=>
     simp only[QI] at HTR
     obtain⟨l1,hd1,hlr⟩:=hr1
     obtain⟨lr',hlr'⟩:∃ lr':List Nod,lr=l1++lr'∧lr'=[]:=⟨[],by rw[hlr,List.append_nil],rfl⟩
     obtain⟨hlr2,hlr3⟩:=hlr'
     subst hlr2
     have hy:(0:Int)≤(e1:Int):=by omega
     have hle1:e1≤s.size:=(JO _ _ _ _ hv1 (show kk≤s.data.toList.length from HI.out.kle)).2
     have hal:=congrArg List.length HI.out.all
     simp only[List.length_append] at hal
     have HCN:Hid (∀ w4,LpN w0 tb eb ec H (.slice (some ⟨xg,0,none⟩) ps.length xc) vr ps rs s rbs a c xs l (Obj.cells #[.int .i64 ((7:Nat):Int),.slice ia il ic,.string ⟨tx.toArray⟩,.int .i64 z,.slice (some ⟨pg,0,none⟩) 1 pc] 149 (0,0)) w a' n' c' dn (l1++lr') kk w4→Calls Tryz.prog 76 #[.pointer (some ⟨tb,0,none⟩),.int .i64 p0,.int .i64 kk,.int .i64 d,.slice a' n' c'] w4 fun e' w5=>∃ a5 n5 c5,e' = .returned (.slice a5 n5 c5)∧Hid (LpN w0 tb eb ec H (.slice (some ⟨xg,0,none⟩) ps.length xc) vr ps rs s rbs a c xs l (Obj.cells #[.int .i64 ((7:Nat):Int),.slice ia il ic,.string ⟨tx.toArray⟩,.int .i64 z,.slice (some ⟨pg,0,none⟩) 1 pc] 149 (0,0)) w a5 n5 c5 (dn++l1) lr' kk w5)):=z6 (fun w4 h4=>by
      have hcN:=HNN.out w4 p0 kk d a' c' (xs++dn) l1 h4.nd h4.kle hd1 (by rw[List.length_append];omega) (by omega)
      rw[← h4.len] at hcN
      exact hcN.mono (fun e' w3 hP=>h4.listed hw HOB.out hP))
     have HL3:=z6 hlr3
     clear hlr3
     clear hsq hv1 hd1 hal
     go_wp2_with fail
     refine HTR.out.mono ?_
     rintro _ w4 ⟨rfl,hs4,hk4⟩
     have HN4:=z6 (HI.out.triedM hw hs4 hk4 HI.out.kle)
     obtain⟨hc4,hl4⟩:=HPJ.out _ _ _ _ _ _ _ _ HN4.out
     have o44:w4.cell? ⟨w.heap.size,4,none⟩=some (.slice (some ⟨pg,0,none⟩) 1 pc):=z8 HN4.out.own 4
     have lo4:=za HN4.out.own
     have HCC:=z6 (HCN.out _ HN4.out)
     clear hs4 hk4 HTR HCN hc2 o4
     go_wp2_with fail
     refine HCC.out.mono ?_
     rintro _ w5 ⟨a5,n5,c5,rfl,HN5⟩
     obtain⟨hc5,hl5⟩:=HPJ.out _ _ _ _ _ _ _ _ HN5.out
     have o45:w5.cell? ⟨w.heap.size,4,none⟩=some (.slice (some ⟨pg,0,none⟩) 1 pc):=z8 HN5.out.own 4
     have lo5:=za HN5.out.own
     have HT5:=z6 (HTT.out w5 p0 kk (some e1) HN5.out.nd.st HN5.out.kle HV1.out)
     simp only[QI] at HT5
     clear HCC hc4 o44
     simp only[]
     go_wp2_with fail
     refine HT5.out.mono ?_
     rintro _ w6 ⟨rfl,hs6,hk6⟩
     have HN6:=z6 (HN5.out.triedM hw hs6 hk6 hle1)
     have o06:w6.cell? ⟨w.heap.size,0,none⟩=some (.int .i64 ((7:Nat):Int)):=z8 HN6.out.own 0
     have lo6:=za HN6.out.own
     clear hs6 hk6 HT5 hc5 o45
     have hlr3:=HL3.out
     subst hlr3
     have HZ:=z6 HN6.out.post
     go_wp2_with fail
     go_ret
     exact HZ.out
 ·go_loopg [2,4] f (fun m va vl wr=>∃ (cc kk:Nat) (a':Option Addr) (n' c':Nat) (dn lr:List Nod),cc=m∧va = .int .i64 kk∧vl = .slice a' n' c'∧Hid (ZM (evS ps rs s f) (fun i k=>ndS ps rs s f i k d) p0 false cc kk=some lr)∧Hid (LpN w0 tb eb ec H (.slice (some ⟨xg,0,none⟩) ps.length xc) vr ps rs s rbs a c xs l (Obj.cells #[.int .i64 ((8:Nat):Int),.slice ia il ic,.string ⟨tx.toArray⟩,.int .i64 z,.slice (some ⟨pg,0,none⟩) 1 pc] 149 (0,0)) w a' n' c' dn lr kk wr))
  case atStart=>exact⟨f,k,a,xs.length,c,[],l,rfl,rfl,rfl,HL,HS0⟩
  case round=>
   obtain⟨cc,kk,a',n',c',dn,lr,rfl,rfl,rfl,HSQ,HI⟩:=hrel
   cases cc with
   | zero=>have:=HSQ.out;simp[ZM] at this
   | succ c1=>
    have hsq:=HSQ.out
    simp only[ZM] at hsq
    obtain⟨o,hv1,hr1⟩:∃ o,evS ps rs s f p0 kk=some o∧(match o with | none=>lr=[] | some e1=>∃ l1,ndS ps rs s f p0 kk d=some l1∧∃ lr',ZM (evS ps rs s f) (fun i k=>ndS ps rs s f i k d) p0 false c1 e1=some lr'∧lr=l1++lr'):=by
     cases hF:evS ps rs s f p0 kk with
     | none=>rw[hF] at hsq;cases hsq
     | some o=>
     rw[hF] at hsq
     cases o with
     | none=>exact⟨none,rfl,(Option.some.inj hsq).symm⟩
     | some e1=>
     simp only[] at hsq
     cases hG:ndS ps rs s f p0 kk d with
     | none=>rw[hG] at hsq;cases hsq
     | some l1=>
      rw[hG] at hsq
      simp only[Bool.false_eq_true,if_false,if_true] at hsq
      cases hS:ZM (evS ps rs s f) (fun i k=>ndS ps rs s f i k d) p0 false c1 e1 with
      | none=>rw[hS] at hsq;cases hsq
      | some lr'=>rw[hS] at hsq;exact⟨some e1,rfl,l1,rfl,lr',hS,(Option.some.inj hsq).symm⟩
    have HTR:=z6 (HTT.out wr p0 kk o HI.out.nd.st HI.out.kle hv1)
    have o4:wr.cell? ⟨w.heap.size,4,none⟩=some (.slice (some ⟨pg,0,none⟩) 1 pc):=z8 HI.out.own 4
    have lo2:=za HI.out.own
    obtain⟨hc2,hl2⟩:=HPJ.out _ _ _ _ _ _ _ _ HI.out
    have HV1:=z6 hv1
    cases o with
    | none=>
     have hlr:lr=[]:=hr1
     subst hlr
     simp only[JN] at HTR
     clear hsq hv1 hr1
     go_wp2_with fail
     refine HTR.out.mono ?_
     rintro _ w4 ⟨rfl,hs4,hk4⟩
     have HZ:=z6 (HI.out.triedM hw hs4 hk4 HI.out.kle).post
     clear hs4 hk4 HTR
     go_wp2_with fail
     go_ret
     exact HZ.out
    | some e1=>
     simp only[QI] at HTR
     obtain⟨l1,hd1,lr',hrr,hlr⟩:=hr1
     subst hlr
     have HRR:=z6 hrr
     have hy:(0:Int)≤(e1:Int):=by omega
     have hle1:e1≤s.size:=(JO _ _ _ _ hv1 (show kk≤s.data.toList.length from HI.out.kle)).2
     have hal:=congrArg List.length HI.out.all
     simp only[List.length_append] at hal
     have HCN:Hid (∀ w4,LpN w0 tb eb ec H (.slice (some ⟨xg,0,none⟩) ps.length xc) vr ps rs s rbs a c xs l (Obj.cells #[.int .i64 ((8:Nat):Int),.slice ia il ic,.string ⟨tx.toArray⟩,.int .i64 z,.slice (some ⟨pg,0,none⟩) 1 pc] 149 (0,0)) w a' n' c' dn (l1++lr') kk w4→Calls Tryz.prog 76 #[.pointer (some ⟨tb,0,none⟩),.int .i64 p0,.int .i64 kk,.int .i64 d,.slice a' n' c'] w4 fun e' w5=>∃ a5 n5 c5,e' = .returned (.slice a5 n5 c5)∧Hid (LpN w0 tb eb ec H (.slice (some ⟨xg,0,none⟩) ps.length xc) vr ps rs s rbs a c xs l (Obj.cells #[.int .i64 ((8:Nat):Int),.slice ia il ic,.string ⟨tx.toArray⟩,.int .i64 z,.slice (some ⟨pg,0,none⟩) 1 pc] 149 (0,0)) w a5 n5 c5 (dn++l1) lr' kk w5)):=z6 (fun w4 h4=>by
      have hcN:=HNN.out w4 p0 kk d a' c' (xs++dn) l1 h4.nd h4.kle hd1 (by rw[List.length_append];omega) (by omega)
      rw[← h4.len] at hcN
      exact hcN.mono (fun e' w3 hP=>h4.listed hw HOB.out hP))
     clear hsq hv1 hd1 hal
     go_wp2_with fail
     refine HTR.out.mono ?_
     rintro _ w4 ⟨rfl,hs4,hk4⟩
     have HN4:=z6 (HI.out.triedM hw hs4 hk4 HI.out.kle)
     obtain⟨hc4,hl4⟩:=HPJ.out _ _ _ _ _ _ _ _ HN4.out
     have o44:w4.cell? ⟨w.heap.size,4,none⟩=some (.slice (some ⟨pg,0,none⟩) 1 pc):=z8 HN4.out.own 4
     have lo4:=za HN4.out.own
     have HCC:=z6 (HCN.out _ HN4.out)
     clear hs4 hk4 HTR HCN hc2 o4
     go_wp2_with fail
     refine HCC.out.mono ?_
     rintro _ w5 ⟨a5,n5,c5,rfl,HN5⟩
     obtain⟨hc5,hl5⟩:=HPJ.out _ _ _ _ _ _ _ _ HN5.out
     have o45:w5.cell? ⟨w.heap.size,4,none⟩=some (.slice (some ⟨pg,0,none⟩) 1 pc):=z8 HN5.out.own 4
     have lo5:=za HN5.out.own
     have HT5:=z6 (HTT.out w5 p0 kk (some e1) HN5.out.nd.st HN5.out.kle HV1.out)
     simp only[QI] at HT5
     clear HCC hc4 o44
     simp only[]
     go_wp2_with fail
     refine HT5.out.mono ?_
     rintro _ w6 ⟨rfl,hs6,hk6⟩
     have HN6:=z6 (HN5.out.triedM hw hs6 hk6 hle1)
     have o06:w6.cell? ⟨w.heap.size,0,none⟩=some (.int .i64 ((8:Nat):Int)):=z8 HN6.out.own 0
     have lo6:=za HN6.out.own
     clear hs6 hk6 HT5 hc5 o45
     go_wp2_with fail
     go_roundg c1
     case measure=>omega
     case rel=>exact⟨c1,e1,a5,n5,c5,dn++l1,lr',rfl,rfl,rfl,HRR,HN6⟩
 ·go_loopg [2,4] f (fun m va vl wr=>∃ (cc kk:Nat) (a':Option Addr) (n' c':Nat) (dn lr:List Nod),cc=m∧va = .int .i64 kk∧vl = .slice a' n' c'∧Hid (ZM (evS ps rs s f) (fun i k=>ndS ps rs s f i k d) p0 false cc kk=some lr)∧Hid (LpN w0 tb eb ec H (.slice (some ⟨xg,0,none⟩) ps.length xc) vr ps rs s rbs a c xs l (Obj.cells #[.int .i64 ((9:Nat):Int),.slice ia il ic,.string ⟨tx.toArray⟩,.int .i64 z,.slice (some ⟨pg,0,none⟩) 1 pc] 149 (0,0)) w a' n' c' dn lr kk wr))
  case atStart=>exact⟨f,k,a,xs.length,c,[],l,rfl,rfl,rfl,HL,HS0⟩
  case round=>
   obtain⟨cc,kk,a',n',c',dn,lr,rfl,rfl,rfl,HSQ,HI⟩:=hrel
   cases cc with
   | zero=>have:=HSQ.out;simp[ZM] at this
   | succ c1=>
    have hsq:=HSQ.out
    simp only[ZM] at hsq
    obtain⟨o,hv1,hr1⟩:∃ o,evS ps rs s f p0 kk=some o∧(match o with | none=>lr=[] | some e1=>∃ l1,ndS ps rs s f p0 kk d=some l1∧∃ lr',ZM (evS ps rs s f) (fun i k=>ndS ps rs s f i k d) p0 false c1 e1=some lr'∧lr=l1++lr'):=by
     cases hF:evS ps rs s f p0 kk with
     | none=>rw[hF] at hsq;cases hsq
     | some o=>
     rw[hF] at hsq
     cases o with
     | none=>exact⟨none,rfl,(Option.some.inj hsq).symm⟩
     | some e1=>
     simp only[] at hsq
     cases hG:ndS ps rs s f p0 kk d with
     | none=>rw[hG] at hsq;cases hsq
     | some l1=>
      rw[hG] at hsq
      simp only[Bool.false_eq_true,if_false,if_true] at hsq
      cases hS:ZM (evS ps rs s f) (fun i k=>ndS ps rs s f i k d) p0 false c1 e1 with
      | none=>rw[hS] at hsq;cases hsq
      | some lr'=>rw[hS] at hsq;exact⟨some e1,rfl,l1,rfl,lr',hS,(Option.some.inj hsq).symm⟩
    have HTR:=z6 (HTT.out wr p0 kk o HI.out.nd.st HI.out.kle hv1)
    have o4:wr.cell? ⟨w.heap.size,4,none⟩=some (.slice (some ⟨pg,0,none⟩) 1 pc):=z8 HI.out.own 4
    have lo2:=za HI.out.own
    obtain⟨hc2,hl2⟩:=HPJ.out _ _ _ _ _ _ _ _ HI.out
    have HV1:=z6 hv1
    cases o with
    | none=>
     have hlr:lr=[]:=hr1
     subst hlr
     simp only[JN] at HTR
     clear hsq hv1 hr1
     go_wp2_with fail
     refine HTR.out.mono ?_
     rintro _ w4 ⟨rfl,hs4,hk4⟩
     have HZ:=z6 (HI.out.triedM hw hs4 hk4 HI.out.kle).post
     clear hs4 hk4 HTR
     go_wp2_with fail
     go_ret
     exact HZ.out
    | some e1=>
     simp only[QI] at HTR
     obtain⟨l1,hd1,lr',hrr,hlr⟩:=hr1
     subst hlr
     have HRR:=z6 hrr
     have hy:(0:Int)≤(e1:Int):=by omega
     have hle1:e1≤s.size:=(JO _ _ _ _ hv1 (show kk≤s.data.toList.length from HI.out.kle)).2
     have hal:=congrArg List.length HI.out.all
     simp only[List.length_append] at hal
     have HCN:Hid (∀ w4,LpN w0 tb eb ec H (.slice (some ⟨xg,0,none⟩) ps.length xc) vr ps rs s rbs a c xs l (Obj.cells #[.int .i64 ((9:Nat):Int),.slice ia il ic,.string ⟨tx.toArray⟩,.int .i64 z,.slice (some ⟨pg,0,none⟩) 1 pc] 149 (0,0)) w a' n' c' dn (l1++lr') kk w4→Calls Tryz.prog 76 #[.pointer (some ⟨tb,0,none⟩),.int .i64 p0,.int .i64 kk,.int .i64 d,.slice a' n' c'] w4 fun e' w5=>∃ a5 n5 c5,e' = .returned (.slice a5 n5 c5)∧Hid (LpN w0 tb eb ec H (.slice (some ⟨xg,0,none⟩) ps.length xc) vr ps rs s rbs a c xs l (Obj.cells #[.int .i64 ((9:Nat):Int),.slice ia il ic,.string ⟨tx.toArray⟩,.int .i64 z,.slice (some ⟨pg,0,none⟩) 1 pc] 149 (0,0)) w a5 n5 c5 (dn++l1) lr' kk w5)):=z6 (fun w4 h4=>by
      have hcN:=HNN.out w4 p0 kk d a' c' (xs++dn) l1 h4.nd h4.kle hd1 (by rw[List.length_append];omega) (by omega)
      rw[← h4.len] at hcN
      exact hcN.mono (fun e' w3 hP=>h4.listed hw HOB.out hP))
     clear hsq hv1 hd1 hal
     go_wp2_with fail
     refine HTR.out.mono ?_
     rintro _ w4 ⟨rfl,hs4,hk4⟩
     have HN4:=z6 (HI.out.triedM hw hs4 hk4 HI.out.kle)
     obtain⟨hc4,hl4⟩:=HPJ.out _ _ _ _ _ _ _ _ HN4.out
     have o44:w4.cell? ⟨w.heap.size,4,none⟩=some (.slice (some ⟨pg,0,none⟩) 1 pc):=z8 HN4.out.own 4
     have lo4:=za HN4.out.own
     have HCC:=z6 (HCN.out _ HN4.out)
     clear hs4 hk4 HTR HCN hc2 o4
     go_wp2_with fail
     refine HCC.out.mono ?_
     rintro _ w5 ⟨a5,n5,c5,rfl,HN5⟩
     obtain⟨hc5,hl5⟩:=HPJ.out _ _ _ _ _ _ _ _ HN5.out
     have o45:w5.cell? ⟨w.heap.size,4,none⟩=some (.slice (some ⟨pg,0,none⟩) 1 pc):=z8 HN5.out.own 4
     have lo5:=za HN5.out.own
     have HT5:=z6 (HTT.out w5 p0 kk (some e1) HN5.out.nd.st HN5.out.kle HV1.out)
     simp only[QI] at HT5
     clear HCC hc4 o44
     simp only[]
     go_wp2_with fail
     refine HT5.out.mono ?_
     rintro _ w6 ⟨rfl,hs6,hk6⟩
     have HN6:=z6 (HN5.out.triedM hw hs6 hk6 hle1)
     have o06:w6.cell? ⟨w.heap.size,0,none⟩=some (.int .i64 ((9:Nat):Int)):=z8 HN6.out.own 0
     have lo6:=za HN6.out.own
     clear hs6 hk6 HT5 hc5 o45
     go_wp2_with fail
     go_roundg c1
     case measure=>omega
     case rel=>exact⟨c1,e1,a5,n5,c5,dn++l1,lr',rfl,rfl,rfl,HRR,HN6⟩
theorem zgV (hE:Env w0 B gb vx vr ps rs s rbs) (f:Nat) (hN:K7 w0 tb eb ec H vx vr ps rs s rbs f):K7 w0 tb eb ec H vx vr ps rs s rbs (f+1):=by
 intro w i k d a c xs l h hk hl hxl hdl
 have hT:=zaC (tb:=tb) (eb:=eb) (ec:=ec) hE f
 rw[ndS,ndR] at hl
 cases hx:(zK ps)[i]? with
 | none=>rw[hx] at hl;cases hl
 | some e=>
  rw[hx] at hl
  simp only[] at hl
  split at hl
  rotate_left
  ·cases hl
  rename_i ho
  unfold Yg at hl
  by_cases h4:e.kind=4
  ·rw[if_pos h4] at hl
   split at hl
   ·rename_i n hv
    exact zgR hE f hT hN w i k d a c xs l e n h hk hx ho h4 hv hl hxl hdl (by omega)
   ·cases hl
  rw[if_neg h4] at hl
  by_cases h5:e.kind=5
  ·rw[if_pos h5] at hl
   exact zgU hE f hT hN w i k d a c xs l e h hk hx ho h5 hl hxl hdl
  rw[if_neg h5] at hl
  by_cases h6:e.kind=6
  ·rw[if_pos h6] at hl
   exact zgP hE f hT hN w i k d a c xs l e h hk hx ho h6 hl hxl hdl
  rw[if_neg h6] at hl
  by_cases h7 : 7≤e.kind∧e.kind≤9
  ·rw[if_pos h7] at hl
   exact zgT hE f hT hN w i k d a c xs l e h hk hx ho (by omega) hl hxl hdl
  rw[if_neg h7] at hl
  have:=Option.some.inj hl
  subst this
  exact zgQ hE w i k d a c xs e h hx ho (by omega) (by simpa using hxl)
theorem zbV (hE:Env w0 B gb vx vr ps rs s rbs):∀ f,K7 w0 tb eb ec H vx vr ps rs s rbs f
 | 0=>fun _ _ _ _ _ _ _ _ _ _ hl _ _=>by simp[ndR] at hl
 | f+1=>zgV hE f (zbV hE f)
end
def K0 (x:Nat × Nt):List Nod:=(0,0,x.1,0)::zY 1 x.2
def Yw (t:List UInt8) (s:ByteArray) (B:Nat) (w':World) (v c:Value):Prop:=∃ res,Zo t res∧match res with
  | .error (er,_)=>v = .slice none 0 0∧c = .int .i64 er
  | .ok (g,_)=>if 200<s.size then v = .slice none 0 0∧c = .int .i64 1 else ∃ o,(∀ h : 0<g.length,Ev g s.data.toList (.C g[0].choice) 0 o)∧c = .int .i64 0∧(match o with
   | none=>v = .slice none 0 0
   | some x=>∃ a cp,v = .slice a (K0 x).length cp∧w'.ownsRow B 60 4 (.slice a (K0 x).length cp) (K0 x).length ((K0 x).flatMap ZZ))
def qF (t:List UInt8) (s:ByteArray) (w:World) (e:Ending) (w':World):Prop:=Below w.heap.size w w'∧∃ v c,e = .returned (.tuple #[v,c])∧Yw t s w.heap.size w' v c
theorem qj {g:List ze} {E:List Bool} (hE:JF g E) (hgl:g.length≤20) {inp:z7} (hi:inp.length≤200) {x:Nat × Nt} (h:∀ h : 0<g.length,Ev g inp (.C g[0].choice) 0 (some x)):szN x.2≤4000:=by
 have h1:=Ev.few hE (h hE.pos) (hE.good 0 hE.pos)
 have h2:g.length * inp.length≤20 * 200:=Nat.mul_le_mul hgl hi
 omega
theorem zil (t s:ByteArray) (w:World) (hs:t.size≤maxLen) (hs2:s.size≤maxLen) (r:Except (Nat × Nat) (List ze)) (hP:Zs t.data.toList r) :
  Calls Tryz.prog 47 #[.string t,.string s] w fun e w'=>qF t.data.toList s w e w':=by
 have hbg:=zca t s w hs hs2 r hP
 clear hP
 go_enter Tryz.func47,Tryz.ntmps47
 go_wp2_with fail
 refine hbg.mono ?_
 rintro e w1 ⟨hb,res,hP,hE⟩
 have HB:=z6 hb
 have HP:=z6 hP
 clear hbg hb hP
 cases res with
 | error x=>
  obtain⟨er,p⟩:=x
  obtain⟨h0,rfl⟩:=hE
  have h1:¬ (er:Int)=0:=by omega
  go_wp2_with fail
  go_ret2
  exact⟨HB.out,_,_,rfl,.error (er,p),HP.out,rfl,rfl⟩
 | ok y=>
  obtain⟨g,E⟩:=y
  simp only[] at hE
  by_cases hlong : 200<s.size
  ·rw[if_pos hlong] at hE
   subst hE
   go_wp2_with fail
   go_ret2
   refine⟨HB.out,_,_,rfl,.ok (g,E),HP.out,?_⟩
   simp only[]
   rw[if_pos hlong]
   exact⟨rfl,rfl⟩
  ·rw[if_neg hlong] at hE
   obtain⟨tb,n,rfl,hok⟩:=hE
   obtain⟨o,ho⟩:=qh (inp:=s.data.toList) HP.out.ends
   have hn:=hok.val o (fun _=>ho)
   subst hn
   have hgp:=HP.out.ends.pos
   cases o with
   | none=>
    have hfe:zF (fin none) = -1:=rfl
    simp only[hfe]
    have HO:=z6 ho
    clear hok hfe ho
    go_wp2_with fail
    go_ret2
    refine⟨HB.out,_,_,rfl,.ok (g,E),HP.out,?_⟩
    simp only[]
    rw[if_neg hlong]
    exact⟨none,fun _=>HO.out,rfl,rfl⟩
   | some x=>
    obtain⟨e1,m⟩:=x
    obtain⟨w0,B,gb,eb,ec,vx,vr,ps,rs,rbs,hww,hEn,hSt,hden⟩:=hok.ex
    have hfe:zF (fin (some (e1,m)))=(e1:Int):=rfl
    simp only[hfe]
    have hx0:¬ (e1:Int)<0:=by omega
    have hx1:decide ((e1:Int)<0)=false:=by simp
    obtain⟨htl,hsz,hold,q⟩:=hSt.cells
    obtain⟨rg,rc,hvr,_,hrgl⟩:=hEn.gm.ruAt hEn.rpos
    have hrp:=hEn.rpos
    have hgm:=hEn.gm
    have hrs:rs.length=g.length:=(zV.get rs g hden).1
    have hgl:g.length≤20:=by have:=hEn.rle;omega
    have hsl:=hEn.sle
    subst hvr
    have d1:=(hgm.ruCells 0 hrp).2
    have d1':w1.cell? ⟨rg,1,none⟩=some (.int .i64 rs[0].2):=by rw[World.cell?_of_block (a:=⟨rg,_,none⟩) (hold rg hrgl)];simpa using d1
    have q1:w1.cell? ⟨tb,1,none⟩=some (.slice (some ⟨rg,0,none⟩) rs.length rc):=q 1
    have hdb:=Vv hden hrp hgp
    obtain⟨f,hf⟩:=(Ev.pgroup ho).simD hden e1 m rfl _ hdb 1
    have hsm:=qj HP.out.ends hgl (show s.data.toList.length≤200 by show s.size≤200;omega) (x:=(e1,m)) (fun _=>ho)
    simp only[] at hsm
    have helt:eb<w1.heap.size:=by obtain⟨M,hT,_⟩:=hSt.ex;exact hT.elt
    have hrge:∀ b ∈ rbs,w0.heap.size≤b:=by obtain⟨M,hT,_⟩:=hSt.ex;exact hT.rge
    have hrow:=World.ownsRow_lit (base:=w1.heap.size) (e:=60) (size:=4) w1 #[.int .i64 ((0:Nat):Int),.int .i64 ((0:Nat):Int),.int .i64 (e1:Int),.int .i64 ((0:Nat):Int)] 1 (Nat.le_refl _) (by decide) rfl
    have hnd:NdS w0 tb eb ec w1.heap.size vx (.slice (some ⟨rg,0,none⟩) rs.length rc) ps rs s rbs (some ⟨w1.heap.size,0,none⟩) 1 [(0,0,e1,0)] (w1.alloc (.cells #[.int .i64 ((0:Nat):Int),.int .i64 ((0:Nat):Int),.int .i64 (e1:Int),.int .i64 ((0:Nat):Int)] 60 (0,0))):=
     ⟨hSt.below (zc _ _),hrow,htl,helt,hSt.fresh,hsz,by simp⟩
    have HC:=z6 (zbV hEn f _ rs[0].2 0 1 (some ⟨w1.heap.size,0,none⟩) 1 [(0,0,e1,0)] (zY 1 m) hnd (Nat.zero_le _) hf (by rw[YS];simp;omega) (by rw[YS];omega))
    have HZ:Hid (∀ e' w2,Qq w0 tb eb ec w1.heap.size vx (.slice (some ⟨rg,0,none⟩) rs.length rc) ps rs s rbs (some ⟨w1.heap.size,0,none⟩) 1 [(0,0,e1,0)] (zY 1 m) (w1.alloc (.cells #[.int .i64 ((0:Nat):Int),.int .i64 ((0:Nat):Int),.int .i64 (e1:Int),.int .i64 ((0:Nat):Int)] 60 (0,0))) e' w2→∃ a2 n2 c2,e' = .returned (.slice a2 n2 c2)∧Hid (qF t.data.toList s w (.returned (.tuple #[.slice a2 n2 c2,.int .i64 0])) w2)):=z6 (fun e' w2 hP2=>by
     obtain⟨a2,c2,he,h1,h2,h3⟩:=hP2
     have hz:=HB.out.size
     have hz2:=h2.size
     simp at hz2
     refine⟨a2,_,c2,he,z6 ⟨⟨h2.os.trans HB.out.os,h2.tape.trans HB.out.tape,h2.output.trans HB.out.output,by omega,fun b hb=>?_⟩,_,_,rfl,.ok (g,E),HP.out,?_⟩⟩
     ·rw[h2.block b (by simp;omega) (fun hb'=>by have:=hrge b hb';omega) (by simp[obS,Value.ownBlock];omega),zm _ _ (by omega)]
      exact HB.out.block b hb
     ·simp only[]
      rw[if_neg hlong]
      exact⟨some (e1,m),fun _=>ho,by simp,a2,c2,rfl,Zn h1.row (by omega)⟩)
    have hrp':(0:Int)<rs.length:=by omega
    have hrg2:rg<w1.heap.size:=by omega
    simp only[List.length_singleton,Int.natCast_zero,Int.natCast_one] at HC HZ
    generalize rs[0].2=bd at *
    clear hok hEn hSt hden hold q hgm d1 hdb hf hsm hrow hnd hrs
    go_wp2_with fail
    refine (HC.out.mono (fun e' w2 hP2=>HZ.out e' w2 hP2)).mono ?_
    rintro _ w2 ⟨a2,n2,c2,rfl,HZ2⟩
    clear HC HZ
    simp only[]
    go_wp2_with fail
    go_ret2
    exact HZ2.out
end Go.Proofs.YtiganlkabilblaaGreatDoor
namespace Go.Proofs.YtiganlkabilblaaGreatDoor
open Go.RowKit
attribute [local go_sem ↓] Go.wp_at_zero Go.wp_at_succ
theorem zhv (s:ByteArray) (w:World) (hs:s.size≤maxLen) (r:Except (Nat × Nat) (List Thk.ze)) (hP:Zs s.data.toList r) :
  Calls Tryz.prog 15 #[.string s] w fun e w'=>Below w.heap.size w w'∧∃ res,Zo s.data.toList res∧match res with
   | .ok _=>e = .returned (.tuple #[.int .i64 0,.int .i64 0])
   | .error (er,p)=>e = .returned (.tuple #[.int .i64 er,.int .i64 p]):=by
 have hld:=zco s w hs r hP
 clear hP
 go_enter Tryz.func15,Tryz.ntmps15
 go_wp2_with fail
 refine hld.mono ?_
 rintro e w1 ⟨hb,res,hP,hE⟩
 have HB:=z6 hb
 have HP:=z6 hP
 have hz:=hb.size
 clear hld hb hP
 cases res with
 | error x=>
  obtain⟨er,p⟩:=x
  obtain⟨_,xa,xn,xc,ra,rn,rc,rfl⟩:=hE
  go_wp2_with fail
  go_ret2
  exact⟨HB.out.alloc hz _,.error (er,p),HP.out,rfl⟩
 | ok x=>
  obtain⟨g,E⟩:=x
  obtain⟨vx,vr,gb,lb,ps,rs,l,rfl,hok⟩:=hE
  obtain⟨xa,xc,hvx⟩:=zl hok.mem.ex
  obtain⟨ra,rc,hvr⟩:=zl hok.mem.ru
  subst hvx
  subst hvr
  clear hok
  go_wp2_with fail
  go_ret2
  exact⟨HB.out.alloc hz _,.ok (g,E),HP.out,rfl⟩
end Go.Proofs.YtiganlkabilblaaGreatDoor
