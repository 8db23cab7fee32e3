import Derived.Test.YtiganlkabilblaaGreatDoorV14
import Derived.Test.YtiganlkabilblaaGreatDoorV15
import Derived.Test.YtiganlkabilblaaGreatDoorV09
import Derived.Deep.CutRange
set_option linter.all false
set_option maxHeartbeats 64000000
set_option maxRecDepth 100000
namespace Go.Proofs.YtiganlkabilblaaGreatDoor
open Go.RowKit
attribute [local go_sem ↓] Go.wp_at_zero Go.wp_at_succ
def M0:MV:=⟨.slice none 0 0,.slice none 0 0,.slice none 0 0,[],[],[],[],false⟩
abbrev Jd (t:Thk.Tok) (a:Option Addr) (n c:Nat):Obj:=.cells #[.int .i64 (ZS t.kind),.int .i64 t.place,.int .i64 (zz t),.string ⟨(Z1 t).toArray⟩,.slice a n c] 206
structure QR (s:ByteArray) (w:World) (tb k:Nat) (M:MV) (lab:Nat→Nat) (a:Option Addr) (c:Nat) (wr:World):Prop where
 hk:k≤s.size
 mem:Mem wr (w.heap.size+1) (w.heap.size+1) M lab (· = 0)
 below:Below w.heap.size w wr
 res:wr.heap[w.heap.size]? = some JZ
 tok:wr.heap[tb]? = some (Jd (zG k (s.data.toList.drop k)) a (zr (zG k (s.data.toList.drop k))).length c)
 items:Items wr (w.heap.size+1) (.slice a (zr (zG k (s.data.toList.drop k))).length c) (zr (zG k (s.data.toList.drop k)))
 run:Thk.run (TL k (s.data.toList.drop k)) M.st=Thk.run (TL 0 s.data.toList) Thk.S0
 ok:Thk.Q5 M.st
 bd:Thk.Bd k M.st
 size:w.heap.size+2≤tb
theorem zdw {w w':World} {B:Nat} (h:w.heap[B]? = some (rdO (.slice none 0 0) (.slice none 0 0) (.slice none 0 0) [] false)):Mem w B B M0 (fun _=>0) (· = 0):=
 ⟨Nat.le_refl _,h,World.ownsRow_nil _ _ _ _,World.ownsRow_nil _ _ _ _,World.ownsRow_nil _ _ _ _,fun p hp=>(by cases hp),fun p hp=>(by cases hp),fun k hk=>(by simp[M0] at hk)⟩
theorem QR.kept {s:ByteArray} {w:World} {tb k:Nat} {M:MV} {lab:Nat→Nat} {a:Option Addr} {c:Nat} {wr w2:World} (h:QR s w tb k M lab a c wr) (hb:Below wr.heap.size wr w2):QR s w tb k M lab a c w2:=by
 have hs:=h.below.size
 exact⟨h.hk,h.mem.below hb (fun _ _=>rfl),h.below.trans (hb.mono hs),by rw[hb.block _ (za h.res)];exact h.res,by rw[hb.block _ (za h.tok)];exact h.tok,Zv h.items hb,h.run,h.ok,h.bd,h.size⟩
theorem YH (s:ByteArray) (k:Nat) (hk:k≤s.size):zz (zG k (s.data.toList.drop k))≤s.size:=by
 unfold zz
 split
 ·omega
 ·rename_i hl
  have hs:=Kl ((s.data.toList.drop k).drop (Thk.blk false (s.data.toList.drop k))) (by simpa [zG] using hl)
  have hb:=Kb false (s.data.toList.drop k)
  rw[List.length_drop,List.length_drop] at hs
  rw[List.length_drop] at hb
  have e:s.data.toList.length=s.size:=rfl
  simp only[zG]
  omega
theorem Mem.setLow {w:World} {B rb:Nat} {M:MV} {lab:Nat→Nat} {P:Nat→Prop} (h:Mem w B rb M lab P) (b o:Nat) (hb:b<B) (u:Value):Mem (w.setCell ⟨b,o,none⟩ u) B rb M lab P:=by
 have c:=Chg.set b o u w
 have hr:=h.ge
 have ne:∀ {e:TypeId} {sz:Nat} {v:Value} {n:Nat} {xs:List Value},w.ownsRow B e sz v n xs→v.ownBlock≠some b:=fun hv he=>by have:=(hv.lt b he).1;omega
 exact⟨h.ge,by rw[c.same rb h.lt (by omega)];exact h.blk,zq c h.ex (ne h.ex),zq c h.ru (ne h.ru),zq c h.op (ne h.op),fun p hp=>zq c (h.items p hp) (ne (h.items p hp)),
  fun p hp=>⟨zq c (h.parts p hp).1 (ne (h.parts p hp).1),(h.parts p hp).2⟩,fun k hk=>by
   obtain⟨i1,i2,i3,i4⟩:=h.opens k hk
   exact⟨zq c i1 (ne i1),i2,zq c i3 (ne i3),i4⟩⟩
theorem Mem.setTok {w:World} {B rb:Nat} {M:MV} {lab:Nat→Nat} {P:Nat→Prop} (h:Mem w B rb M lab P) {b:Nat} {cs:Array Value} (hb:w.heap[b]? = some (.cells cs 206 (0,0))) (o:Nat) (u:Value):Mem (w.setCell ⟨b,o,none⟩ u) B rb M lab P:=by
 have c:=Chg.set b o u w
 have hne:rb≠b:=by intro e;subst e;rw[h.blk] at hb;simp at hb
 exact⟨h.ge,by rw[c.same rb h.lt hne];exact h.blk,zq c h.ex (zn h.ex hb (by decide)),zq c h.ru (zn h.ru hb (by decide)),zq c h.op (zn h.op hb (by decide)),fun p hp=>zq c (h.items p hp) (zn (h.items p hp) hb (by decide)),
  fun p hp=>⟨zq c (h.parts p hp).1 (zn (h.parts p hp).1 hb (by decide)),(h.parts p hp).2⟩,fun k hk=>by
   obtain⟨i1,i2,i3,i4⟩:=h.opens k hk
   exact⟨zq c i1 (zn i1 hb (by decide)),i2,zq c i3 (zn i3 hb (by decide)),i4⟩⟩
theorem UK {B B':Nat} {w w':World} (hK:KT B w w') {v:Value} {xs:List Thk.zR} (h:Items w B' v xs):Items w' B' v xs:=by
 refine Z6 h (fun g hg=>?_)
 obtain⟨cs,hb⟩:=Qw h hg
 exact hK.ty g cs _ _ hb (by decide)
theorem QR.goK {s:ByteArray} {w:World} {tb k:Nat} {M:MV} {lab:Nat→Nat} {a:Option Addr} {c:Nat} {w3:World} (h:QR s w tb k M lab a c w3) {k':Nat} (hk':k'≤s.size) {m:Thk.Tok} (hm:m=zG k' (s.data.toList.drop k')) {a2:Option Addr} {c2:Nat}
  {w5:World} (i5:Items w5 (w.heap.size+1) (.slice a2 (zr m).length c2) (zr m)) {M5:MV} {lab5:Nat→Nat} (hM5:Mem w5 (w.heap.size+1) (w.heap.size+1) M5 lab5 (· = 0)) (hK:KT (w.heap.size+1) w3 w5)
  (hrun:Thk.run (TL k (s.data.toList.drop k)) M.st=Thk.run (TL k' (s.data.toList.drop k')) M5.st) (hok:Thk.Q5 M5.st) (hbd:Thk.Bd k' M5.st) :
  QR s w tb k' M5 lab5 a2 c2 (((((w5.setCell ⟨tb,0,none⟩ (.int .i64 (ZS m.kind))).setCell ⟨tb,1,none⟩ (.int .i64 m.place)).setCell ⟨tb,2,none⟩ (.int .i64 (zz m))).setCell ⟨tb,3,none⟩ (.string ⟨(Z1 m).toArray⟩)).setCell ⟨tb,4,none⟩ (.slice a2 (zr m).length c2)):=by
 have ht5:w5.heap[tb]? = some (Jd (zG k (s.data.toList.drop k)) a (zr (zG k (s.data.toList.drop k))).length c):=by
  rw[hK.ty tb _ _ _ h.tok (by decide)];exact h.tok
 have hsz:=h.size
 have b1:=Jo (o:=0) ht5 (.int .i64 (ZS m.kind))
 have b2:=Jo (o:=1) b1 (.int .i64 m.place)
 have b3:=Jo (o:=2) b2 (.int .i64 (zz m))
 have b4:=Jo (o:=3) b3 (.string ⟨(Z1 m).toArray⟩)
 have b5:=Jo (o:=4) b4 (.slice a2 (zr m).length c2)
 have e1:=zq (Chg.set tb 0 (.int .i64 (ZS m.kind)) w5) i5 (zn i5 ht5 (by decide))
 have e2:=zq (Chg.set tb 1 (.int .i64 m.place) _) e1 (zn e1 b1 (by decide))
 have e3:=zq (Chg.set tb 2 (.int .i64 (zz m)) _) e2 (zn e2 b2 (by decide))
 have e4:=zq (Chg.set tb 3 (.string ⟨(Z1 m).toArray⟩) _) e3 (zn e3 b3 (by decide))
 have e5:=zq (Chg.set tb 4 (.slice a2 (zr m).length c2) _) e4 (zn e4 b4 (by decide))
 have hb5:Below w.heap.size w w5:=h.below.trans ⟨hK.os,hK.tape,hK.output,hK.size,fun k hk=>hK.low k (by omega)⟩
 have hle:w.heap.size≤tb:=by omega
 have hr5:w5.heap[w.heap.size]? = some JZ:=by rw[hK.low _ (by omega)];exact h.res
 refine⟨hk',((((hM5.setTok ht5 _ _).setTok b1 _ _).setTok b2 _ _).setTok b3 _ _).setTok b4 _ _,((((hb5.setCell hle _).setCell hle _).setCell hle _).setCell hle _).setCell hle _,?_,?_,?_,by rw[← hrun];exact h.run,hok,hbd,h.size⟩
 ·have hne:w.heap.size≠tb:=by omega
  rw[Below.heap_setCell _ _ _ _ hne,Below.heap_setCell _ _ _ _ hne,Below.heap_setCell _ _ _ _ hne,Below.heap_setCell _ _ _ _ hne,Below.heap_setCell _ _ _ _ hne];exact hr5
 ·rw[← hm];exact b5
 ·rw[← hm];exact e5
theorem QR.go {s:ByteArray} {w:World} {tb k:Nat} {M:MV} {lab:Nat→Nat} {a:Option Addr} {c:Nat} {w3:World} (h:QR s w tb k M lab a c w3) {T m:Thk.Tok} (hT:T=zG k (s.data.toList.drop k)) (hm:m=zG (zz T) (s.data.toList.drop (zz T))) {a2:Option Addr} {c2:Nat}
  (hmi:Items w3 (w.heap.size+1) (.slice a2 (zr m).length c2) (zr m)) {w5:World} {M5:MV} {lab5:Nat→Nat} (hM5:Mem w5 (w.heap.size+1) (w.heap.size+1) M5 lab5 (· = 0)) (hK:KT (w.heap.size+1) w3 w5)
  (hrun:Thk.run (TL k (s.data.toList.drop k)) M.st=Thk.run (TL (zz T) (s.data.toList.drop (zz T))) M5.st) (hok:Thk.Q5 M5.st) (hbd:Thk.Bd (zz T) M5.st) :
  QR s w tb (zz T) M5 lab5 a2 c2 (((((w5.setCell ⟨tb,0,none⟩ (.int .i64 (ZS m.kind))).setCell ⟨tb,1,none⟩ (.int .i64 m.place)).setCell ⟨tb,2,none⟩ (.int .i64 (zz m))).setCell ⟨tb,3,none⟩ (.string ⟨(Z1 m).toArray⟩)).setCell ⟨tb,4,none⟩ (.slice a2 (zr m).length c2)):=
 h.goK (by rw[hT];exact YH s k h.hk) hm (UK hK hmi) hM5 hK hrun hok hbd
theorem KT.of_below {B:Nat} {w w':World} (h:Below w.heap.size w w') (hB:B≤w.heap.size):KT B w w':=
 ⟨h.os,h.tape,h.output,h.size,fun k hk=>h.block k (by omega),fun k cs t fr hk _=>h.block k (za hk)⟩
theorem zi9 (w:World) (B rb:Nat) (M:MV) (lab:Nat→Nat) (h:Mem w B rb M lab (· = 0)) (hok:Thk.Q5 M.st) (n:Nat) (hb:Thk.Bd n M.st) (hn:n≤2100) :
  Calls Tryz.prog 98 #[.pointer (some ⟨rb,0,none⟩)] w fun e' w'=>QS w B rb M.st.rule (.tuple #[]) e' w':=by
 by_cases hrs:M.rs=[]
 ·refine (zi8 w B rb M lab h hrs).mono ?_
  rintro e w' ⟨rfl,hw⟩
  subst hw
  refine⟨rfl,M,lab,h,KT.refl _ _,?_⟩
  unfold Thk.ST.rule;rw[if_pos (show M.st.rs=[] from hrs)]
 ·have hor:M.os≠[]:=by
   have:=hok.ne hrs
   simpa [MV.st] using this
  obtain⟨rr,r,hrr⟩:∃ rr r,M.rs=rr++[r]:=⟨M.rs.dropLast,M.rs.getLast hrs,(List.dropLast_concat_getLast hrs).symm⟩
  obtain⟨mr,m0,hoo⟩:∃ mr m0,M.os=mr++[m0]:=⟨M.os.dropLast,M.os.getLast hor,(List.dropLast_concat_getLast hor).symm⟩
  have hbx:=hb.xs
  have hbe:=hb.each m0.1 (by simp[MV.st,hoo])
  have hxl:M.st.xs.length=M.xs.length:=by simp[MV.st]
  have hol:M.os.length≤7:=by have:=hb.os;simpa [MV.st] using this
  have hmrl:mr.length≤7:=by rw[hoo] at hol;simp at hol;omega
  have hrl:M.rs.length≤20:=hb.rs
  have hrrl:rr.length≤20:=by rw[hrr] at hrl;simp at hrl;omega
  have hSS:M.st.rule = { M.st.closed with rs:=rr++[(r.1,M.xs.length+1)] }:=by
   unfold Thk.ST.rule
   rw[if_neg (show M.st.rs≠[] from hrs)]
   have e1:M.st.rs=rr++[r]:=hrr
   rw[e1,hxl];simp[List.getLastD_concat]
  rw[hSS]
  exact zcq w B rb M lab h rr r hrr mr m0 hoo (by omega) (by omega) (by omega) (by omega)
def zaR (B:Nat) (w4 wx:World) (M4:MV) (nm:Thk.z7):Prop:=∃ M5 lab5,Mem wx B B M5 lab5 (· = 0)∧KT B w4 wx∧M5.st = { M4.st with rs:=M4.st.rs++[(nm,0)] }
theorem zip {B:Nat} {w4 w5:World} {M4:MV} {lab4:Nat→Nat} (h:Mem w4 B B M4 lab4 (· = 0)) {ra:Option Addr} {rc:Nat} (hv:M4.vr = .slice ra M4.rs.length rc) {nm:Thk.z7} {O:Obj} {g cap:Nat}
  (hown:w5.ownsRow B 90 2 (.slice (some ⟨g,0,none⟩) (M4.rs.length+1) cap) (M4.rs.length+1) (M4.rs.flatMap ruC++[.string ⟨nm.toArray⟩,.int .i64 0])) (hg:((w4.alloc O).drew).grownBy w5 (Value.slice ra M4.rs.length rc).ownBlock) (hat:(Value.slice ra M4.rs.length rc).ownBlock=some g∨g=w4.heap.size+1) :
  zaR B w4 (w5.setCell ⟨B,1,none⟩ (.slice (some ⟨g,0,none⟩) (M4.rs.length+1) cap)) M4 nm:=by
 have hMW:Mem ((w4.alloc O).drew) B B M4 lab4 (· = 0):=h.below (zc w4 O).drew (fun _ _=>rfl)
 have hsz:((w4.alloc O).drew).heap.size=w4.heap.size+1:=by show (w4.alloc O).heap.size=_;simp
 obtain⟨h1,h2⟩:=hMW.pushRule hown (by rw[hv];exact hg) (by rw[hv,hsz];exact hat)
 have hlt:=h.lt
 exact⟨_,_,h1,(KT.of_below (zc w4 O).drew (by omega)).trans h2,by simp[MV.st]⟩
theorem Vf {s:ByteArray} {k:Nat} {T:Thk.Tok} (hT:T=zG k (s.data.toList.drop k)) (hl:T.kind.last=false):TL k (s.data.toList.drop k)=T::TL (zz T) (s.data.toList.drop (zz T))∧k+1≤zz T:=by
 have h1:=K9 k (s.data.toList.drop k)
 rw[← hT,if_neg (by simp[hl])] at h1
 have hsz:=Kl ((s.data.toList.drop k).drop (Thk.blk false (s.data.toList.drop k))) (by rw[hT] at hl;exact hl)
 have hp:T.place=k+Thk.blk false (s.data.toList.drop k):=by rw[hT];rfl
 have hs:T.size=(Thk.zM ((s.data.toList.drop k).drop (Thk.blk false (s.data.toList.drop k)))).size:=by rw[hT];rfl
 have hr:zz T=T.place+T.size:=by unfold zz;rw[if_neg (by simp[hl])]
 refine⟨?_,by omega⟩
 rw[h1,hr,List.drop_drop,hp,← Nat.add_assoc]
def zdA (s:ByteArray) (w:World) (e:Ending) (w':World):Prop:=Below w.heap.size w w' ∧
 if 2000<s.size then e = .returned (.tuple #[ZP,.int .i64 1,.int .i64 0]) else
  match Thk.run (TL 0 s.data.toList) Thk.S0 with
  | .error x=>e = .returned (.tuple #[ZP,.int .i64 x.1,.int .i64 x.2])
  | .ok S'=>∃ M lab,e = .returned (.tuple #[.agg #[M.vx,M.vr],.int .i64 0,.int .i64 0])∧Mem w' (w.heap.size+1) (w.heap.size+1) M lab (· = 0)∧M.st=S'
theorem zi7 (s:ByteArray) (w:World) (hs:s.size≤maxLen) :
  Calls Tryz.prog 64 #[.string s] w fun e w'=>zdA s w e w':=by
 by_cases hl : 2000<s.size
 ·have hl':(2000:Int)<s.size:=by omega
  have hm:(s.size:Int)≤9223372036854775807:=by unfold maxLen at hs;omega
  go_enter Tryz.func64,Tryz.ntmps64
  go_wp2_with fail
  refine bodyPost_ret (v:=.tuple #[ZP,.int .i64 1,.int .i64 0]) (by simp[results,Tryz.results64,go_sem];done) rfl ⟨zc w _,?_⟩
  rw[if_pos hl]
 ·have hl':¬ (2000:Int)<s.size:=by omega
  have hnx:=fun k w' (hk:k≤s.size)=>zi0 s k w' (by omega) hk
  have hn0:=hnx 0 ((w.alloc JZ).alloc (rdO (.slice none 0 0) (.slice none 0 0) (.slice none 0 0) [] false)) (by omega)
  have HNX:=z6 hnx
  clear hnx
  go_enter Tryz.func64,Tryz.ntmps64
  go_wp2_with fail
  refine hn0.mono ?_
  rintro _ w1 ⟨v,rfl,hb1,hit⟩
  obtain⟨a0,c0,rfl⟩:=zl hit
  have hz1:=hb1.size
  simp at hz1
  have hres:w1.heap[w.heap.size]? = some JZ:=by
   rw[hb1.block _ (by simp;omega),zm _ _ (by simp)];exact zk _ _
  have hrd:w1.heap[w.heap.size+1]? = some (rdO (.slice none 0 0) (.slice none 0 0) (.slice none 0 0) [] false):=by
   rw[hb1.block _ (by simp)];exact Ji _ _ _ (by simp)
  have hInv:QR s w w1.heap.size 0 M0 (fun _=>0) a0 c0 (w1.alloc (Jd (zG 0 (s.data.toList.drop 0)) a0 (zr (zG 0 (s.data.toList.drop 0))).length c0)):=by
   have hb2:Below w.heap.size w w1:=((zc w _).alloc (by simp) _).trans (hb1.mono (by simp;omega))
   refine⟨by omega,zdw (w':=w) (by rw[zm _ _ (by omega)];exact hrd),hb2.alloc (by omega) _,by rw[zm _ _ (by omega)];exact hres,zk _ _,(Zn hit (by simp)).alloc _,by rw[List.drop_zero];rfl,Thk.Q5.zero,Thk.Bd.zero,by omega⟩
  have HINV:=z6 hInv
  have HS:Hid (s.size≤2000):=(by omega:s.size≤2000)
  simp only[ZN]
  clear hit hb1 hInv hn0 hres hrd
  go_wp2_with fail
  go_loopg [7,8,9,10,11] (s.size+1) (fun m _ _ _ _ _ wr=>∃ (k:Nat) (M:MV) (lab:Nat→Nat) (a:Option Addr) (c:Nat),m=s.size+1 - k∧Hid (QR s w w1.heap.size k M lab a c wr))
  case atStart=>exact⟨0,M0,_,a0,c0,by omega,HINV⟩
  case round=>
   obtain⟨k,M,lab,a,c,rfl,hI⟩:=hrel
   have hI':=hI.out
   obtain⟨T,hT⟩:∃ T,T=zG k (s.data.toList.drop k):=⟨_,rfl⟩
   have hk:=hI'.hk
   have htok:=hI'.tok
   rw[← hT] at htok
   have tq:=z8 htok
   have rq:=z8 hI'.res
   have rf:=zi hI'.res
   have tsz:=hI'.size
   have ttl:=za htok
   have mq:=z8 hI'.mem.blk
   have mf:=zi hI'.mem.blk
   have hTL:=K9 k (s.data.toList.drop k)
   rw[← hT] at hTL
   have HT:=z6 hT
   have HTL:=z6 hTL
   have hbel:=hI'.below.size
   have hlt0:w.heap.size<wr.heap.size:=by omega
   have hlt1:w.heap.size+1<wr.heap.size:=by omega
   clear hI' htok hT hTL HINV
   cases hkd:T.kind with
   | bad=>
    as_aux_lemma=>
     have hrun:Thk.run (TL 0 s.data.toList) Thk.S0 = .error (2,T.place):=by
      rw[← hI.out.run,HTL.out];exact Thk.VQ hkd
     simp only[hkd,ZS] at tq
     go_wp2_with fail
     go_region
     all_goals go_wp2_with fail
     all_goals refine bodyPost_ret (v:=.tuple #[ZP,.int .i64 2,.int .i64 T.place]) (by simp[results,Tryz.results64,go_sem,rq,hlt0];done) rfl ⟨?_,?_⟩
     ·exact ((hI.out.below.setCell (Nat.le_refl _) _).setCell (Nat.le_refl _) _).drew
     ·rw[if_neg hl,hrun];rfl
   | fin=>
    as_aux_lemma=>
     have hnx:=HNX.out (zz T) wr (by rw[HT.out];exact YH s k hk)
     simp only[hkd,ZS] at tq
     go_upto_region 8 with (first | (go_at_call 97;refine hnx.mono ?_;rintro _ w2 ⟨v2,rfl,hb2,hit2⟩;obtain⟨a2,c2,rfl⟩:=zl hit2;simp only[ZN]))
     obtain⟨m,hm⟩:∃ m,m=zG (zz T) (s.data.toList.drop (zz T)):=⟨_,rfl⟩
     rw[← hm] at hit2
     simp only[← hm]
     obtain⟨w3,hw3⟩:∃ w3,w3=w2.alloc (Jd m a2 (zr m).length c2):=⟨_,rfl⟩
     have hI3:QR s w w1.heap.size k M lab a c w3:=by rw[hw3];exact hI.out.kept (hb2.alloc hb2.size _)
     have hmt:w3.heap[w2.heap.size]? = some (Jd m a2 (zr m).length c2):=by rw[hw3];exact zk _ _
     have hmi:Items w3 (w.heap.size+1) (.slice a2 (zr m).length c2) (zr m):=by rw[hw3];exact (Zn hit2 (by omega)).alloc _
     rw[← hw3]
     have htok3:=hI3.tok
     rw[← HT.out] at htok3
     have tq3:=z8 htok3
     simp only[hkd,ZS] at tq3
     have rq3:=z8 hI3.res
     have rf3:=zi hI3.res
     have mt3:=z8 hmt
     obtain⟨xa,xc,hvx⟩:=zl hI3.mem.ex
     obtain⟨ra,rc,hvr⟩:=zl hI3.mem.ru
     obtain⟨oa,oc,hvo⟩:=zl hI3.mem.op
     have hblk:=hI3.mem.blk
     rw[hvx,hvr,hvo] at hblk
     have mq3:=z8 hblk
     have mf3:=zi hblk
     have hz3:w.heap.size+2<w3.heap.size:=by have:=hI3.size;have:=za hI3.tok;omega
     have n30:w.heap.size<w3.heap.size:=by omega
     have n31:w.heap.size+1<w3.heap.size:=by omega
     have n36:w1.heap.size<w3.heap.size:=za hI3.tok
     have n37:w2.heap.size<w3.heap.size:=za hmt
     have hrl:M.rs.length≤20:=hI3.bd.rs
     have hol:M.os.length≤7:=by have:=hI3.bd.os;simpa [MV.st] using this
     have HI3:=z6 hI3
     have HM:=z6 hm
     have HMI:=z6 hmi
     have HVX:=z6 hvx
     have HVR:=z6 hvr
     have HVO:=z6 hvo
     clear hI3 hmt hmi hw3 hit2 hb2 hnx tq rq rf mq mf hlt0 hlt1 htok3 hblk hvx hvr hvo hm hI
     have hrun0:Thk.run (TL 0 s.data.toList) Thk.S0=if M.rs=[]∨M.sign≠[]∨1<M.os.length then .error (2,T.place) else .ok M.st.rule:=by
      rw[← HI3.out.run,HTL.out,Thk.VR hkd];simp[MV.st]
     have HR0:=z6 hrun0
     clear hrun0
     by_cases hrs:M.rs=[]
     ·have hrl0:M.rs.length=0:=by rw[hrs];rfl
      have hrun:Thk.run (TL 0 s.data.toList) Thk.S0 = .error (2,T.place):=by rw[HR0.out,if_pos (.inl hrs)]
      rw[hrl0] at mq3
      clear hrs hrl hrl0
      go_wp2_with fail
      go_region
      all_goals go_wp2_with fail
      all_goals refine bodyPost_ret (v:=.tuple #[ZP,.int .i64 2,.int .i64 T.place]) (by simp[results,Tryz.results64,go_sem,rq3,n30];done) rfl ⟨?_,?_⟩
      ·exact ((HI3.out.below.setCell (Nat.le_refl _) _).setCell (Nat.le_refl _) _).drew
      ·rw[if_neg hl,hrun];rfl
     ·have hr0 : 0<M.rs.length:=List.length_pos_iff.2 hrs
      have hr1:¬ M.rs.length=0:=by omega
      by_cases hsg:M.sign=[]
      ·rw[hsg] at mq3
       by_cases hos : 1<M.os.length
       ·have hrun:Thk.run (TL 0 s.data.toList) Thk.S0 = .error (2,T.place):=by rw[HR0.out,if_pos (.inr (.inr hos))]
        clear hrs
        go_wp2_with fail
        go_region
        all_goals go_wp2_with fail
        all_goals refine bodyPost_ret (v:=.tuple #[ZP,.int .i64 2,.int .i64 T.place]) (by simp[results,Tryz.results64,go_sem,rq3,n30];done) rfl ⟨?_,?_⟩
        ·exact ((HI3.out.below.setCell (Nat.le_refl _) _).setCell (Nat.le_refl _) _).drew
        ·rw[if_neg hl,hrun];rfl
       ·have hrun:Thk.run (TL 0 s.data.toList) Thk.S0 = .ok M.st.rule:=by
         rw[HR0.out,if_neg]
         rintro (h' | h' | h')
         ·exact hrs h'
         ·exact h' hsg
         ·exact hos h'
        have HRUN:=z6 hrun
        have hor:M.os≠[]:=by
         have:=HI3.out.ok.ne hrs
         simpa [MV.st] using this
        obtain⟨rr,r,hrr⟩:∃ rr r,M.rs=rr++[r]:=⟨M.rs.dropLast,M.rs.getLast hrs,(List.dropLast_concat_getLast hrs).symm⟩
        obtain⟨mr,m0,hoo⟩:∃ mr m0,M.os=mr++[m0]:=⟨M.os.dropLast,M.os.getLast hor,(List.dropLast_concat_getLast hor).symm⟩
        have hbx:=HI3.out.bd.xs
        have hbe:=HI3.out.bd.each m0.1 (by simp[MV.st,hoo])
        have hxl:M.st.xs.length=M.xs.length:=by simp[MV.st]
        have hmrl:mr.length≤7:=by have:=hol;rw[hoo] at this;simp at this;omega
        have hrrl:rr.length≤20:=by have:=hrl;rw[hrr] at this;simp at this;omega
        have hru:=zcq w3 (w.heap.size+1) (w.heap.size+1) M lab HI3.out.mem rr r hrr mr m0 hoo (by omega) (by omega) (by omega) (by omega)
        have HRR:=z6 hrr
        have HSS:Hid (M.st.rule = { M.st.closed with rs:=rr++[(r.1,M.xs.length+1)] }):=by
         show _=_
         unfold Thk.ST.rule
         rw[if_neg (show M.st.rs≠[] from hrs)]
         have e1:M.st.rs=rr++[r]:=hrr
         rw[e1,hxl];simp[List.getLastD_concat]
        have hos1:(M.os.length:Int)≤1:=by omega
        have hdec:decide ((1:Int)<M.os.length)=false:=by simp;omega
        clear hrs hor hrr hoo hrun hbx hbe hxl hos hmrl hrrl hol hrl
        go_wp2_with fail
        refine hru.mono ?_
        rintro _ w4 ⟨rfl,M4,lab4,hM4,hK4,hS4⟩
        have hres4:w4.heap[w.heap.size]? = some JZ:=by rw[hK4.low _ (by omega)];exact HI3.out.res
        have rq4:=z8 hres4
        have rf4:=zi hres4
        have hz4:=hK4.size
        have n40:w.heap.size<w4.heap.size:=by omega
        obtain⟨xa4,xc4,hvx4⟩:=zl hM4.ex
        obtain⟨ra4,rc4,hvr4⟩:=zl hM4.ru
        have hblk4:=hM4.blk
        rw[hvx4,hvr4] at hblk4
        have mq4:=z8 hblk4
        have HM4:=z6 hM4
        have HK4:=z6 hK4
        have HS4:=z6 hS4
        have HV4:=z6 (And.intro hvx4 hvr4)
        clear hru hM4 hK4 hS4 hblk4 hvx4 hvr4 hres4
        go_wp2_with fail
        refine bodyPost_ret (v:=.tuple #[.agg #[.slice xa4 M4.xs.length xc4,.slice ra4 M4.rs.length rc4],.int .i64 0,.int .i64 0]) (by simp[results,Tryz.results64,go_sem,rq4,n40];done) rfl ⟨?_,?_⟩
        ·have hb4:Below w.heap.size w w4:=HI3.out.below.trans ⟨HK4.out.os,HK4.out.tape,HK4.out.output,HK4.out.size,fun k hk=>HK4.out.low k (by omega)⟩
         exact (hb4.setCell (Nat.le_refl _) _).setCell (Nat.le_refl _) _
        ·rw[if_neg hl,HRUN.out]
         exact⟨M4,lab4,by rw[HV4.out.1,HV4.out.2],(HM4.out.setLow _ _ (by omega) _).setLow _ _ (by omega) _,by rw[HS4.out,HSS.out]⟩
      ·have hse:M.sign.isEmpty=false:=by simpa using hsg
       have hrun:Thk.run (TL 0 s.data.toList) Thk.S0 = .error (2,T.place):=by rw[HR0.out,if_pos (.inr (.inl hsg))]
       clear hrs hsg
       go_wp2_with fail
       go_region
       all_goals go_wp2_with fail
       all_goals refine bodyPost_ret (v:=.tuple #[ZP,.int .i64 2,.int .i64 T.place]) (by simp[results,Tryz.results64,go_sem,rq3,n30];done) rfl ⟨?_,?_⟩
       ·exact ((HI3.out.below.setCell (Nat.le_refl _) _).setCell (Nat.le_refl _) _).drew
       ·rw[if_neg hl,hrun];rfl
   | arrow=>
    as_aux_lemma=>
     have hnx:=HNX.out (zz T) wr (by rw[HT.out];exact YH s k hk)
     simp only[hkd,ZS] at tq
     go_upto_region 8 with (first | (go_at_call 97;refine hnx.mono ?_;rintro _ w2 ⟨v2,rfl,hb2,hit2⟩;obtain⟨a2,c2,rfl⟩:=zl hit2;simp only[ZN]))
     obtain⟨m,hm⟩:∃ m,m=zG (zz T) (s.data.toList.drop (zz T)):=⟨_,rfl⟩
     rw[← hm] at hit2
     simp only[← hm]
     obtain⟨w3,hw3⟩:∃ w3,w3=w2.alloc (Jd m a2 (zr m).length c2):=⟨_,rfl⟩
     have hI3:QR s w w1.heap.size k M lab a c w3:=by rw[hw3];exact hI.out.kept (hb2.alloc hb2.size _)
     have hmt:w3.heap[w2.heap.size]? = some (Jd m a2 (zr m).length c2):=by rw[hw3];exact zk _ _
     have hmi:Items w3 (w.heap.size+1) (.slice a2 (zr m).length c2) (zr m):=by rw[hw3];exact (Zn hit2 (by omega)).alloc _
     rw[← hw3]
     have htok3:=hI3.tok
     rw[← HT.out] at htok3
     have tq3:=z8 htok3
     simp only[hkd,ZS] at tq3
     have rq3:=z8 hI3.res
     have rf3:=zi hI3.res
     have mt3:=z8 hmt
     obtain⟨xa,xc,hvx⟩:=zl hI3.mem.ex
     obtain⟨ra,rc,hvr⟩:=zl hI3.mem.ru
     obtain⟨oa,oc,hvo⟩:=zl hI3.mem.op
     have hblk:=hI3.mem.blk
     rw[hvx,hvr,hvo] at hblk
     have mq3:=z8 hblk
     have mf3:=zi hblk
     have hz3:w.heap.size+2<w3.heap.size:=by have:=hI3.size;have:=za hI3.tok;omega
     have n30:w.heap.size<w3.heap.size:=by omega
     have n31:w.heap.size+1<w3.heap.size:=by omega
     have n36:w1.heap.size<w3.heap.size:=za hI3.tok
     have n37:w2.heap.size<w3.heap.size:=za hmt
     have hrl:M.rs.length≤20:=hI3.bd.rs
     have hol:M.os.length≤7:=by have:=hI3.bd.os;simpa [MV.st] using this
     have HI3:=z6 hI3
     have HM:=z6 hm
     have HMI:=z6 hmi
     have HVX:=z6 hvx
     have HVR:=z6 hvr
     have HVO:=z6 hvo
     clear hI3 hmt hmi hw3 hit2 hb2 hnx tq rq rf mq mf hlt0 hlt1 htok3 hblk hvx hvr hvo hm hI
     have hrun:Thk.run (TL 0 s.data.toList) Thk.S0 = .error (2,T.place):=by
      rw[← HI3.out.run,HTL.out];exact Thk.KV hkd
     by_cases hrs:M.rs=[]
     ·have hrl0:M.rs.length=0:=by rw[hrs];rfl
      rw[hrl0] at mq3
      have hfi:=fun w'=>VN w' (w.heap.size+1) 2 T.place (zz T) (ZS m.kind) m.place (zz m) ⟨(Z1 T).toArray⟩ ⟨(Z1 m).toArray⟩ a a2 (zr T).length c (zr m).length c2
      have HFI:=z6 hfi
      clear hrs hrl hrl0 hfi
      go_wp2_with fail
      refine (HFI.out w3).mono ?_
      rintro _ w5 ⟨rfl,hb5⟩
      have hI5:=HI3.out.kept hb5
      have rq5:=z8 hI5.res
      have rf5:=zi hI5.res
      have n50:w.heap.size<w5.heap.size:=za hI5.res
      have HI5:=z6 hI5
      clear hb5 hI5 HFI
      simp only[ZP]
      go_wp2_with fail
      refine bodyPost_ret (v:=.tuple #[ZP,.int .i64 2,.int .i64 T.place]) (by simp[results,Tryz.results64,go_sem,rq5,n50];done) rfl ⟨?_,?_⟩
      ·exact (HI5.out.below.setCell (Nat.le_refl _) _).setCell (Nat.le_refl _) _
      ·rw[if_neg hl,hrun];rfl
     ·have hr0 : 0<M.rs.length:=List.length_pos_iff.2 hrs
      have hr1:¬ M.rs.length=0:=by omega
      clear hrs
      go_wp2_with fail
      go_region
      all_goals go_wp2_with fail
      all_goals refine bodyPost_ret (v:=.tuple #[ZP,.int .i64 2,.int .i64 T.place]) (by simp[results,Tryz.results64,go_sem,rq3,n30];done) rfl ⟨?_,?_⟩
      ·exact ((HI3.out.below.setCell (Nat.le_refl _) _).setCell (Nat.le_refl _) _).drew
      ·rw[if_neg hl,hrun];rfl
   | lit=>
    as_aux_lemma=>
     have hnx:=HNX.out (zz T) wr (by rw[HT.out];exact YH s k hk)
     simp only[hkd,ZS] at tq
     go_upto_region 8 with (first | (go_at_call 97;refine hnx.mono ?_;rintro _ w2 ⟨v2,rfl,hb2,hit2⟩;obtain⟨a2,c2,rfl⟩:=zl hit2;simp only[ZN]))
     obtain⟨m,hm⟩:∃ m,m=zG (zz T) (s.data.toList.drop (zz T)):=⟨_,rfl⟩
     rw[← hm] at hit2
     simp only[← hm]
     obtain⟨w3,hw3⟩:∃ w3,w3=w2.alloc (Jd m a2 (zr m).length c2):=⟨_,rfl⟩
     have hI3:QR s w w1.heap.size k M lab a c w3:=by rw[hw3];exact hI.out.kept (hb2.alloc hb2.size _)
     have hmt:w3.heap[w2.heap.size]? = some (Jd m a2 (zr m).length c2):=by rw[hw3];exact zk _ _
     have hmi:Items w3 (w.heap.size+1) (.slice a2 (zr m).length c2) (zr m):=by rw[hw3];exact (Zn hit2 (by omega)).alloc _
     rw[← hw3]
     have htok3:=hI3.tok
     rw[← HT.out] at htok3
     have tq3:=z8 htok3
     simp only[hkd,ZS] at tq3
     have rq3:=z8 hI3.res
     have rf3:=zi hI3.res
     have mt3:=z8 hmt
     obtain⟨xa,xc,hvx⟩:=zl hI3.mem.ex
     obtain⟨ra,rc,hvr⟩:=zl hI3.mem.ru
     obtain⟨oa,oc,hvo⟩:=zl hI3.mem.op
     have hblk:=hI3.mem.blk
     rw[hvx,hvr,hvo] at hblk
     have mq3:=z8 hblk
     have mf3:=zi hblk
     have hz3:w.heap.size+2<w3.heap.size:=by have:=hI3.size;have:=za hI3.tok;omega
     have n30:w.heap.size<w3.heap.size:=by omega
     have n31:w.heap.size+1<w3.heap.size:=by omega
     have n36:w1.heap.size<w3.heap.size:=za hI3.tok
     have n37:w2.heap.size<w3.heap.size:=za hmt
     have hrl:M.rs.length≤20:=hI3.bd.rs
     have hol:M.os.length≤7:=by have:=hI3.bd.os;simpa [MV.st] using this
     have HI3:=z6 hI3
     have HMT:=z6 hmt
     have HM:=z6 hm
     have HMI:=z6 hmi
     have HVX:=z6 hvx
     have HVR:=z6 hvr
     have HVO:=z6 hvo
     clear hI3 hmt hmi hw3 hit2 hb2 hnx tq rq rf mq mf hlt0 hlt1 htok3 hblk hvx hvr hvo hm hI
     have hnl:T.kind.last=false:=by rw[hkd];rfl
     obtain⟨hTLr,hk1⟩:=Vf HT.out hnl
     have HTR:=z6 hTLr
     clear hTLr hnl
     by_cases hrs:M.rs=[]
     ·have hrun:Thk.run (TL 0 s.data.toList) Thk.S0 = .error (2,T.place):=by
       rw[← HI3.out.run,HTL.out,Thk.run.eq_def];simp[hkd,MV.st,hrs]
      have hrl0:M.rs.length=0:=by rw[hrs];rfl
      rw[hrl0] at mq3
      have hfi:=fun w'=>VN w' (w.heap.size+1) 3 T.place (zz T) (ZS m.kind) m.place (zz m) ⟨(Z1 T).toArray⟩ ⟨(Z1 m).toArray⟩ a a2 (zr T).length c (zr m).length c2
      have HFI:=z6 hfi
      clear hrs hrl hrl0 hfi
      go_wp2_with fail
      refine (HFI.out w3).mono ?_
      rintro _ w5 ⟨rfl,hb5⟩
      have hI5:=HI3.out.kept hb5
      have rq5:=z8 hI5.res
      have rf5:=zi hI5.res
      have n50:w.heap.size<w5.heap.size:=za hI5.res
      have HI5:=z6 hI5
      clear hb5 hI5 HFI
      simp only[ZP]
      go_wp2_with fail
      refine bodyPost_ret (v:=.tuple #[ZP,.int .i64 2,.int .i64 T.place]) (by simp[results,Tryz.results64,go_sem,rq5,n50];done) rfl ⟨?_,?_⟩
      ·exact (HI5.out.below.setCell (Nat.le_refl _) _).setCell (Nat.le_refl _) _
      ·rw[if_neg hl,hrun];rfl
     ·have hr0 : 0<M.rs.length:=List.length_pos_iff.2 hrs
      have hr1:¬ M.rs.length=0:=by omega
      have hor:M.os≠[]:=by
       have:=HI3.out.ok.ne hrs
       simpa [MV.st] using this
      obtain⟨mr,m0,hoo⟩:∃ mr m0,M.os=mr++[m0]:=⟨M.os.dropLast,M.os.getLast hor,(List.dropLast_concat_getLast hor).symm⟩
      have hbx:=HI3.out.bd.xs
      have hbe:=HI3.out.bd.each m0.1 (by simp[MV.st,hoo])
      have hxl:M.st.xs.length=M.xs.length:=by simp[MV.st]
      have hmrl:mr.length≤7:=by have:=hol;rw[hoo] at this;simp at this;omega
      have hk2000:k≤2000:=by have:=HS.out;omega
      have hE:Thk.Zb T=⟨1,zr T,Z1 T,0,[]⟩:=by simp[Thk.Zb,zr,Z1,hkd,dup]
      obtain⟨h1,k1⟩:=HI3.out.mem.setSign []
      have hti:Items (w3.setCell ⟨w.heap.size+1,3,none⟩ (.string ⟨([]:Thk.z7).toArray⟩)) (w.heap.size+1) (.slice a (zr T).length c) (zr T):=by
       have hi:=HI3.out.items
       rw[← HT.out] at hi
       exact UK k1 hi
      obtain⟨W,hW⟩:∃ W,W=(w3.setCell ⟨w.heap.size+1,3,none⟩ (.string ⟨([]:Thk.z7).toArray⟩)).alloc (.cells #[.int .i64 1,.slice a (zr T).length c,.string ⟨(Z1 T).toArray⟩,.int .i64 0,.slice none 0 0] 149):=⟨_,rfl⟩
      have h2:Mem W (w.heap.size+1) (w.heap.size+1) { M with sign:=[] } lab (· = 0):=by rw[hW];exact h1.below (zc _ _) (fun _ _=>rfl)
      have k2:KT (w.heap.size+1) w3 W:=by rw[hW];exact k1.trans (KT.alloc _ _ (by have:=k1.size;omega) _)
      have hti2:Items W (w.heap.size+1) (.slice a (zr T).length c) (zr T):=by rw[hW];exact hti.alloc _
      have had:=YG W (w.heap.size+1) (w.heap.size+1) xa xc M.xs.length M.vr M.vo [] M.may (M.xs.flatMap exC) 1 a (zr T).length c ⟨(Z1 T).toArray⟩ 0 none 0 0 (by rw[← HVX.out];exact h2.blk) (by rw[← HVX.out];exact h2.ex) (by omega) (Nat.le_refl _)
      simp only[show ((1:Nat):Int)=1 from rfl] at had
      have H2:=z6 h2
      have K2:=z6 k2
      have HTI:=z6 hti2
      have HO:=z6 hoo
      have HEX:=z6 hE
      have HRS:=z6 hrs
      have HSG:=z6 (VJ HI3.out.ok.sg)
      have f33:=mf3 3
      clear hrs h1 k1 hti h2 k2 hti2 hoo hor hE
      have hxb:W.heap[w3.heap.size]? = some (.cells #[.int .i64 1,.slice a (zr T).length c,.string ⟨(Z1 T).toArray⟩,.int .i64 0,.slice none 0 0] 149):=by rw[hW];exact Ji _ _ _ (by simp)
      have xq:=z8 hxb
      clear hxb
      go_upto_region 17 with fail
      rw[← hW]
      clear hW
      go_wp2_with fail
      refine had.mono ?_
      rintro _ w5 ⟨xg,xcap,rfl,hAE⟩
      obtain⟨hM5,hK5⟩:=H2.out.add (re:=Thk.Zb T) (iv:=.slice a (zr T).length c) (pv:=.slice none 0 0) (by rw[HVX.out,HEX.out];exact hAE) (by rw[HEX.out];exact HTI.out) (by rw[HEX.out];exact World.ownsRow_nil _ _ _ _) (fun b hb=>by simp[Value.ownBlock] at hb)
      have htm:=VP w5 (w.heap.size+1) (w.heap.size+1) _ lab hM5 mr m0 HO.out M.xs.length M.sign HSG.out (by simp;omega) (by omega) (by omega)
      have HK5:=z6 hK5
      clear had hAE hM5 hK5
      go_wp2_with fail
      refine htm.mono ?_
      rintro _ w6 ⟨rfl,M6,lab6,hM6,hK6,hS6⟩
      have hKK:KT (w.heap.size+1) w3 w6:=K2.out.trans (HK5.out.trans hK6)
      have hSS:M6.st=M.st.lay (Thk.Zb T):=by rw[hS6];simp[MV.st,Thk.ST.add,Thk.ST.lay]
      have hne':M.st.os≠[]:=by simp[MV.st,HO.out]
      have hnew:=HI3.out.go HT.out HM.out HMI.out hM6 hKK (by rw[HTR.out,Thk.zcw hkd (show M.st.rs≠[] from HRS.out),hSS]) (by rw[hSS];exact HI3.out.ok.lay hne' (Thk.qT T)) (by rw[hSS];exact (HI3.out.bd.lay hne' _).mono hk1)
      have HNEW:=z6 hnew
      have ht6:w6.heap[w1.heap.size]? = _:=(hKK.ty _ _ _ _ HI3.out.tok (by decide)).trans HI3.out.tok
      rw[← HT.out] at ht6
      have tq6:=z8 ht6
      have tf6:=zi ht6
      have hm6:w6.heap[w2.heap.size]? = _:=(hKK.ty _ _ _ _ HMT.out (by decide)).trans HMT.out
      have mt6:=z8 hm6
      have n66:w1.heap.size<w6.heap.size:=za ht6
      have n67:w2.heap.size<w6.heap.size:=za hm6
      clear htm hM6 hK6 hS6 hKK hSS hnew ht6 hm6
      go_wp2
      go_roundg (s.size+1 - zz T)
      case rel=>exact⟨zz T,M6,lab6,a2,c2,rfl,HNEW⟩
      case measure=>omega
   | cls=>
    as_aux_lemma=>
     have hnx:=HNX.out (zz T) wr (by rw[HT.out];exact YH s k hk)
     simp only[hkd,ZS] at tq
     go_upto_region 8 with (first | (go_at_call 97;refine hnx.mono ?_;rintro _ w2 ⟨v2,rfl,hb2,hit2⟩;obtain⟨a2,c2,rfl⟩:=zl hit2;simp only[ZN]))
     obtain⟨m,hm⟩:∃ m,m=zG (zz T) (s.data.toList.drop (zz T)):=⟨_,rfl⟩
     rw[← hm] at hit2
     simp only[← hm]
     obtain⟨w3,hw3⟩:∃ w3,w3=w2.alloc (Jd m a2 (zr m).length c2):=⟨_,rfl⟩
     have hI3:QR s w w1.heap.size k M lab a c w3:=by rw[hw3];exact hI.out.kept (hb2.alloc hb2.size _)
     have hmt:w3.heap[w2.heap.size]? = some (Jd m a2 (zr m).length c2):=by rw[hw3];exact zk _ _
     have hmi:Items w3 (w.heap.size+1) (.slice a2 (zr m).length c2) (zr m):=by rw[hw3];exact (Zn hit2 (by omega)).alloc _
     rw[← hw3]
     have htok3:=hI3.tok
     rw[← HT.out] at htok3
     have tq3:=z8 htok3
     simp only[hkd,ZS] at tq3
     have rq3:=z8 hI3.res
     have rf3:=zi hI3.res
     have mt3:=z8 hmt
     obtain⟨xa,xc,hvx⟩:=zl hI3.mem.ex
     obtain⟨ra,rc,hvr⟩:=zl hI3.mem.ru
     obtain⟨oa,oc,hvo⟩:=zl hI3.mem.op
     have hblk:=hI3.mem.blk
     rw[hvx,hvr,hvo] at hblk
     have mq3:=z8 hblk
     have mf3:=zi hblk
     have hz3:w.heap.size+2<w3.heap.size:=by have:=hI3.size;have:=za hI3.tok;omega
     have n30:w.heap.size<w3.heap.size:=by omega
     have n31:w.heap.size+1<w3.heap.size:=by omega
     have n36:w1.heap.size<w3.heap.size:=za hI3.tok
     have n37:w2.heap.size<w3.heap.size:=za hmt
     have hrl:M.rs.length≤20:=hI3.bd.rs
     have hol:M.os.length≤7:=by have:=hI3.bd.os;simpa [MV.st] using this
     have HI3:=z6 hI3
     have HMT:=z6 hmt
     have HM:=z6 hm
     have HMI:=z6 hmi
     have HVX:=z6 hvx
     have HVR:=z6 hvr
     have HVO:=z6 hvo
     clear hI3 hmt hmi hw3 hit2 hb2 hnx tq rq rf mq mf hlt0 hlt1 htok3 hblk hvx hvr hvo hm hI
     have hnl:T.kind.last=false:=by rw[hkd];rfl
     obtain⟨hTLr,hk1⟩:=Vf HT.out hnl
     have HTR:=z6 hTLr
     clear hTLr hnl
     by_cases hrs:M.rs=[]
     ·have hrun:Thk.run (TL 0 s.data.toList) Thk.S0 = .error (2,T.place):=by
       rw[← HI3.out.run,HTL.out,Thk.run.eq_def];simp[hkd,MV.st,hrs]
      have hrl0:M.rs.length=0:=by rw[hrs];rfl
      rw[hrl0] at mq3
      have hfi:=fun w'=>VN w' (w.heap.size+1) 4 T.place (zz T) (ZS m.kind) m.place (zz m) ⟨(Z1 T).toArray⟩ ⟨(Z1 m).toArray⟩ a a2 (zr T).length c (zr m).length c2
      have HFI:=z6 hfi
      clear hrs hrl hrl0 hfi
      go_wp2_with fail
      refine (HFI.out w3).mono ?_
      rintro _ w5 ⟨rfl,hb5⟩
      have hI5:=HI3.out.kept hb5
      have rq5:=z8 hI5.res
      have rf5:=zi hI5.res
      have n50:w.heap.size<w5.heap.size:=za hI5.res
      have HI5:=z6 hI5
      clear hb5 hI5 HFI
      simp only[ZP]
      go_wp2_with fail
      refine bodyPost_ret (v:=.tuple #[ZP,.int .i64 2,.int .i64 T.place]) (by simp[results,Tryz.results64,go_sem,rq5,n50];done) rfl ⟨?_,?_⟩
      ·exact (HI5.out.below.setCell (Nat.le_refl _) _).setCell (Nat.le_refl _) _
      ·rw[if_neg hl,hrun];rfl
     ·have hr0 : 0<M.rs.length:=List.length_pos_iff.2 hrs
      have hr1:¬ M.rs.length=0:=by omega
      have hor:M.os≠[]:=by
       have:=HI3.out.ok.ne hrs
       simpa [MV.st] using this
      obtain⟨mr,m0,hoo⟩:∃ mr m0,M.os=mr++[m0]:=⟨M.os.dropLast,M.os.getLast hor,(List.dropLast_concat_getLast hor).symm⟩
      have hbx:=HI3.out.bd.xs
      have hbe:=HI3.out.bd.each m0.1 (by simp[MV.st,hoo])
      have hxl:M.st.xs.length=M.xs.length:=by simp[MV.st]
      have hmrl:mr.length≤7:=by have:=hol;rw[hoo] at this;simp at this;omega
      have hk2000:k≤2000:=by have:=HS.out;omega
      have hE:Thk.Zb T=⟨2,zr T,Z1 T,0,[]⟩:=by simp[Thk.Zb,zr,Z1,hkd,dup]
      obtain⟨h1,k1⟩:=HI3.out.mem.setSign []
      have hti:Items (w3.setCell ⟨w.heap.size+1,3,none⟩ (.string ⟨([]:Thk.z7).toArray⟩)) (w.heap.size+1) (.slice a (zr T).length c) (zr T):=by
       have hi:=HI3.out.items
       rw[← HT.out] at hi
       exact UK k1 hi
      obtain⟨W,hW⟩:∃ W,W=(w3.setCell ⟨w.heap.size+1,3,none⟩ (.string ⟨([]:Thk.z7).toArray⟩)).alloc (.cells #[.int .i64 2,.slice a (zr T).length c,.string ⟨(Z1 T).toArray⟩,.int .i64 0,.slice none 0 0] 149):=⟨_,rfl⟩
      have h2:Mem W (w.heap.size+1) (w.heap.size+1) { M with sign:=[] } lab (· = 0):=by rw[hW];exact h1.below (zc _ _) (fun _ _=>rfl)
      have k2:KT (w.heap.size+1) w3 W:=by rw[hW];exact k1.trans (KT.alloc _ _ (by have:=k1.size;omega) _)
      have hti2:Items W (w.heap.size+1) (.slice a (zr T).length c) (zr T):=by rw[hW];exact hti.alloc _
      have had:=YG W (w.heap.size+1) (w.heap.size+1) xa xc M.xs.length M.vr M.vo [] M.may (M.xs.flatMap exC) 2 a (zr T).length c ⟨(Z1 T).toArray⟩ 0 none 0 0 (by rw[← HVX.out];exact h2.blk) (by rw[← HVX.out];exact h2.ex) (by omega) (Nat.le_refl _)
      simp only[show ((2:Nat):Int)=2 from rfl] at had
      have H2:=z6 h2
      have K2:=z6 k2
      have HTI:=z6 hti2
      have HO:=z6 hoo
      have HEX:=z6 hE
      have HRS:=z6 hrs
      have HSG:=z6 (VJ HI3.out.ok.sg)
      have f33:=mf3 3
      clear hrs h1 k1 hti h2 k2 hti2 hoo hor hE
      have hxb:W.heap[w3.heap.size]? = some (.cells #[.int .i64 2,.slice a (zr T).length c,.string ⟨(Z1 T).toArray⟩,.int .i64 0,.slice none 0 0] 149):=by rw[hW];exact Ji _ _ _ (by simp)
      have xq:=z8 hxb
      clear hxb
      go_upto_region 17 with fail
      rw[← hW]
      clear hW
      go_wp2_with fail
      refine had.mono ?_
      rintro _ w5 ⟨xg,xcap,rfl,hAE⟩
      obtain⟨hM5,hK5⟩:=H2.out.add (re:=Thk.Zb T) (iv:=.slice a (zr T).length c) (pv:=.slice none 0 0) (by rw[HVX.out,HEX.out];exact hAE) (by rw[HEX.out];exact HTI.out) (by rw[HEX.out];exact World.ownsRow_nil _ _ _ _) (fun b hb=>by simp[Value.ownBlock] at hb)
      have htm:=VP w5 (w.heap.size+1) (w.heap.size+1) _ lab hM5 mr m0 HO.out M.xs.length M.sign HSG.out (by simp;omega) (by omega) (by omega)
      have HK5:=z6 hK5
      clear had hAE hM5 hK5
      go_wp2_with fail
      refine htm.mono ?_
      rintro _ w6 ⟨rfl,M6,lab6,hM6,hK6,hS6⟩
      have hKK:KT (w.heap.size+1) w3 w6:=K2.out.trans (HK5.out.trans hK6)
      have hSS:M6.st=M.st.lay (Thk.Zb T):=by rw[hS6];simp[MV.st,Thk.ST.add,Thk.ST.lay]
      have hne':M.st.os≠[]:=by simp[MV.st,HO.out]
      have hnew:=HI3.out.go HT.out HM.out HMI.out hM6 hKK (by rw[HTR.out,Thk.zcv hkd (show M.st.rs≠[] from HRS.out),hSS]) (by rw[hSS];exact HI3.out.ok.lay hne' (Thk.qT T)) (by rw[hSS];exact (HI3.out.bd.lay hne' _).mono hk1)
      have HNEW:=z6 hnew
      have ht6:w6.heap[w1.heap.size]? = _:=(hKK.ty _ _ _ _ HI3.out.tok (by decide)).trans HI3.out.tok
      rw[← HT.out] at ht6
      have tq6:=z8 ht6
      have tf6:=zi ht6
      have hm6:w6.heap[w2.heap.size]? = _:=(hKK.ty _ _ _ _ HMT.out (by decide)).trans HMT.out
      have mt6:=z8 hm6
      have n66:w1.heap.size<w6.heap.size:=za ht6
      have n67:w2.heap.size<w6.heap.size:=za hm6
      clear htm hM6 hK6 hS6 hKK hSS hnew ht6 hm6
      go_wp2
      go_roundg (s.size+1 - zz T)
      case rel=>exact⟨zz T,M6,lab6,a2,c2,rfl,HNEW⟩
      case measure=>omega
   | sign ch=>
    as_aux_lemma=>
     have hnx:=HNX.out (zz T) wr (by rw[HT.out];exact YH s k hk)
     simp only[hkd,ZS] at tq
     go_upto_region 8 with (first | (go_at_call 97;refine hnx.mono ?_;rintro _ w2 ⟨v2,rfl,hb2,hit2⟩;obtain⟨a2,c2,rfl⟩:=zl hit2;simp only[ZN]))
     obtain⟨m,hm⟩:∃ m,m=zG (zz T) (s.data.toList.drop (zz T)):=⟨_,rfl⟩
     rw[← hm] at hit2
     simp only[← hm]
     obtain⟨w3,hw3⟩:∃ w3,w3=w2.alloc (Jd m a2 (zr m).length c2):=⟨_,rfl⟩
     have hI3:QR s w w1.heap.size k M lab a c w3:=by rw[hw3];exact hI.out.kept (hb2.alloc hb2.size _)
     have hmt:w3.heap[w2.heap.size]? = some (Jd m a2 (zr m).length c2):=by rw[hw3];exact zk _ _
     have hmi:Items w3 (w.heap.size+1) (.slice a2 (zr m).length c2) (zr m):=by rw[hw3];exact (Zn hit2 (by omega)).alloc _
     rw[← hw3]
     have htok3:=hI3.tok
     rw[← HT.out] at htok3
     have tq3:=z8 htok3
     simp only[hkd,ZS] at tq3
     have rq3:=z8 hI3.res
     have rf3:=zi hI3.res
     have mt3:=z8 hmt
     obtain⟨xa,xc,hvx⟩:=zl hI3.mem.ex
     obtain⟨ra,rc,hvr⟩:=zl hI3.mem.ru
     obtain⟨oa,oc,hvo⟩:=zl hI3.mem.op
     have hblk:=hI3.mem.blk
     rw[hvx,hvr,hvo] at hblk
     have mq3:=z8 hblk
     have mf3:=zi hblk
     have hz3:w.heap.size+2<w3.heap.size:=by have:=hI3.size;have:=za hI3.tok;omega
     have n30:w.heap.size<w3.heap.size:=by omega
     have n31:w.heap.size+1<w3.heap.size:=by omega
     have n36:w1.heap.size<w3.heap.size:=za hI3.tok
     have n37:w2.heap.size<w3.heap.size:=za hmt
     have hrl:M.rs.length≤20:=hI3.bd.rs
     have hol:M.os.length≤7:=by have:=hI3.bd.os;simpa [MV.st] using this
     have HI3:=z6 hI3
     have HMT:=z6 hmt
     have HM:=z6 hm
     have HMI:=z6 hmi
     have HVX:=z6 hvx
     have HVR:=z6 hvr
     have HVO:=z6 hvo
     clear hI3 hmt hmi hw3 hit2 hb2 hnx tq rq rf mq mf hlt0 hlt1 htok3 hblk hvx hvr hvo hm hI
     have hnl:T.kind.last=false:=by rw[hkd];rfl
     obtain⟨hTLr,hk1⟩:=Vf HT.out hnl
     have HTR:=z6 hTLr
     have hch:Thk.Qf ch=true:=by
      have:=qa ((s.data.toList.drop k).drop (Thk.blk false (s.data.toList.drop k)))
      have e:(Thk.zM ((s.data.toList.drop k).drop (Thk.blk false (s.data.toList.drop k)))).kind=T.kind:=by rw[HT.out];rfl
      rw[e,hkd] at this
      exact this
     have hrt:Z1 T=[ch]:=by simp[Z1,hkd]
     rw[hrt] at tq3
     clear hTLr hnl
     by_cases hrs:M.rs=[]
     ·have hrun:Thk.run (TL 0 s.data.toList) Thk.S0 = .error (2,T.place):=by
       rw[← HI3.out.run,HTL.out,Thk.run.eq_def];simp[hkd,MV.st,hrs]
      have hrl0:M.rs.length=0:=by rw[hrs];rfl
      rw[hrl0] at mq3
      have hfi:=fun w'=>VN w' (w.heap.size+1) 5 T.place (zz T) (ZS m.kind) m.place (zz m) ⟨[ch].toArray⟩ ⟨(Z1 m).toArray⟩ a a2 (zr T).length c (zr m).length c2
      have HFI:=z6 hfi
      clear hrs hrl hrl0 hfi hrt
      go_wp2_with fail
      refine (HFI.out w3).mono ?_
      rintro _ w5 ⟨rfl,hb5⟩
      have hI5:=HI3.out.kept hb5
      have rq5:=z8 hI5.res
      have rf5:=zi hI5.res
      have n50:w.heap.size<w5.heap.size:=za hI5.res
      have HI5:=z6 hI5
      clear hb5 hI5 HFI
      simp only[ZP]
      go_wp2_with fail
      refine bodyPost_ret (v:=.tuple #[ZP,.int .i64 2,.int .i64 T.place]) (by simp[results,Tryz.results64,go_sem,rq5,n50];done) rfl ⟨?_,?_⟩
      ·exact (HI5.out.below.setCell (Nat.le_refl _) _).setCell (Nat.le_refl _) _
      ·rw[if_neg hl,hrun];rfl
     ·have hr0 : 0<M.rs.length:=List.length_pos_iff.2 hrs
      have hr1:¬ M.rs.length=0:=by omega
      have hor:M.os≠[]:=by
       have:=HI3.out.ok.ne hrs
       simpa [MV.st] using this
      have hsg:=zia w3 (w.heap.size+1) (w.heap.size+1) M lab HI3.out.mem HI3.out.ok k HI3.out.bd (by have:=HS.out;omega) hor ch hch
      have HRS:=z6 hrs
      cases hsi:M.st.signs ch with
      | error er=>
       simp only[U8,hsi] at hsg
       have hrun:Thk.run (TL 0 s.data.toList) Thk.S0 = .error (er,T.place):=by
        rw[← HI3.out.run,HTL.out,Thk.JW hkd (show M.st.rs≠[] from hrs),hsi]
       have her:=Thk.zcK hsi
       have HRUN:=z6 hrun
       clear hrs hor hrun hrt hsi
       go_wp2_with fail
       refine hsg.mono ?_
       rintro _ w5 ⟨rfl,hK5⟩
       have hr5:w5.heap[w.heap.size]? = some JZ:=by rw[hK5.low _ (by omega)];exact HI3.out.res
       have rq5:=z8 hr5
       have rf5:=zi hr5
       have n50:w.heap.size<w5.heap.size:=za hr5
       have ht5:w5.heap[w1.heap.size]? = _:=(hK5.ty _ _ _ _ HI3.out.tok (by decide)).trans HI3.out.tok
       rw[← HT.out] at ht5
       have tq5:=z8 ht5
       have n56:w1.heap.size<w5.heap.size:=za ht5
       have HK5:=z6 hK5
       clear hsg hr5 ht5 hK5
       rcases her with rfl | rfl
       ·go_wp2_with fail
        go_region
        all_goals go_wp2_with fail
        all_goals refine bodyPost_ret (v:=.tuple #[ZP,.int .i64 2,.int .i64 T.place]) (by simp[results,Tryz.results64,go_sem,rq5,n50];done) rfl ⟨?_,?_⟩
        ·have hb5:Below w.heap.size w w5:=HI3.out.below.trans ⟨HK5.out.os,HK5.out.tape,HK5.out.output,HK5.out.size,fun k hk=>HK5.out.low k (by omega)⟩
         exact ((hb5.setCell (Nat.le_refl _) _).setCell (Nat.le_refl _) _).drew
        ·rw[if_neg hl,HRUN.out];rfl
       ·go_wp2_with fail
        go_region
        all_goals go_wp2_with fail
        all_goals refine bodyPost_ret (v:=.tuple #[ZP,.int .i64 3,.int .i64 T.place]) (by simp[results,Tryz.results64,go_sem,rq5,n50];done) rfl ⟨?_,?_⟩
        ·have hb5:Below w.heap.size w w5:=HI3.out.below.trans ⟨HK5.out.os,HK5.out.tape,HK5.out.output,HK5.out.size,fun k hk=>HK5.out.low k (by omega)⟩
         exact ((hb5.setCell (Nat.le_refl _) _).setCell (Nat.le_refl _) _).drew
        ·rw[if_neg hl,HRUN.out];rfl
      | ok S'=>
       simp only[U8,hsi] at hsg
       obtain⟨g1,g2,g3,g4⟩:=Thk.ziL HI3.out.ok HI3.out.bd (by simpa [MV.st] using hor) (show M.st.rs≠[] from hrs) hch hsi
       have HSI:=z6 hsi
       clear hrs hor hrt hsi
       go_wp2_with fail
       refine hsg.mono ?_
       rintro _ w6 ⟨rfl,M6,lab6,hM6,hKK,hSS⟩
       have hnew:=HI3.out.go HT.out HM.out HMI.out hM6 hKK (by rw[HTR.out,Thk.JW hkd (show M.st.rs≠[] from HRS.out),HSI.out,hSS]) (by rw[hSS];exact g1) (by rw[hSS];exact g2.mono hk1)
       have HNEW:=z6 hnew
       have ht6:w6.heap[w1.heap.size]? = _:=(hKK.ty _ _ _ _ HI3.out.tok (by decide)).trans HI3.out.tok
       rw[← HT.out] at ht6
       have tq6:=z8 ht6
       have tf6:=zi ht6
       have hm6:w6.heap[w2.heap.size]? = _:=(hKK.ty _ _ _ _ HMT.out (by decide)).trans HMT.out
       have mt6:=z8 hm6
       have n66:w1.heap.size<w6.heap.size:=za ht6
       have n67:w2.heap.size<w6.heap.size:=za hm6
       clear hsg hM6 hKK hSS hnew ht6 hm6 g1 g2 g3 g4
       go_wp2
       go_roundg (s.size+1 - zz T)
       case rel=>exact⟨zz T,M6,lab6,a2,c2,rfl,HNEW⟩
       case measure=>omega
   | name=>
    as_aux_lemma=>
     have hnx:=HNX.out (zz T) wr (by rw[HT.out];exact YH s k hk)
     simp only[hkd,ZS] at tq
     go_upto_region 8 with (first | (go_at_call 97;refine hnx.mono ?_;rintro _ w2 ⟨v2,rfl,hb2,hit2⟩;obtain⟨a2,c2,rfl⟩:=zl hit2;simp only[ZN]))
     obtain⟨m,hm⟩:∃ m,m=zG (zz T) (s.data.toList.drop (zz T)):=⟨_,rfl⟩
     rw[← hm] at hit2
     simp only[← hm]
     obtain⟨w3,hw3⟩:∃ w3,w3=w2.alloc (Jd m a2 (zr m).length c2):=⟨_,rfl⟩
     have hI3:QR s w w1.heap.size k M lab a c w3:=by rw[hw3];exact hI.out.kept (hb2.alloc hb2.size _)
     have hmt:w3.heap[w2.heap.size]? = some (Jd m a2 (zr m).length c2):=by rw[hw3];exact zk _ _
     have hmi:Items w3 (w.heap.size+1) (.slice a2 (zr m).length c2) (zr m):=by rw[hw3];exact (Zn hit2 (by omega)).alloc _
     rw[← hw3]
     have htok3:=hI3.tok
     rw[← HT.out] at htok3
     have tq3:=z8 htok3
     simp only[hkd,ZS] at tq3
     have rq3:=z8 hI3.res
     have rf3:=zi hI3.res
     have mt3:=z8 hmt
     obtain⟨xa,xc,hvx⟩:=zl hI3.mem.ex
     obtain⟨ra,rc,hvr⟩:=zl hI3.mem.ru
     obtain⟨oa,oc,hvo⟩:=zl hI3.mem.op
     have hblk:=hI3.mem.blk
     rw[hvx,hvr,hvo] at hblk
     have mq3:=z8 hblk
     have mf3:=zi hblk
     have hz3:w.heap.size+2<w3.heap.size:=by have:=hI3.size;have:=za hI3.tok;omega
     have n30:w.heap.size<w3.heap.size:=by omega
     have n31:w.heap.size+1<w3.heap.size:=by omega
     have n36:w1.heap.size<w3.heap.size:=za hI3.tok
     have n37:w2.heap.size<w3.heap.size:=za hmt
     have hrl:M.rs.length≤20:=hI3.bd.rs
     have hol:M.os.length≤7:=by have:=hI3.bd.os;simpa [MV.st] using this
     have HI3:=z6 hI3
     have HMT:=z6 hmt
     have HM:=z6 hm
     have HMI:=z6 hmi
     have HVX:=z6 hvx
     have HVR:=z6 hvr
     have HVO:=z6 hvo
     clear hI3 hmt hmi hw3 hit2 hb2 hnx tq rq rf mq mf hlt0 hlt1 htok3 hblk hvx hvr hvo hm hI
     have hnl:T.kind.last=false:=by rw[hkd];rfl
     obtain⟨hTLr,hk1⟩:=Vf HT.out hnl
     have HTR:=z6 hTLr
     clear hTLr hnl
     have hmm:TL (zz T) (s.data.toList.drop (zz T))=m::(TL (zz T) (s.data.toList.drop (zz T))).tail:=by
      have:=K9 (zz T) (s.data.toList.drop (zz T))
      rw[← HM.out] at this
      rw[this];rfl
     by_cases har:m.kind.isArrow=true
     ·have hka:m.kind = .arrow:=by
       cases hq:m.kind<;>simp[hq,Thk.TK.isArrow] at har ⊢
      have hrun0:Thk.run (TL 0 s.data.toList) Thk.S0=if M.sign≠[]∨1<M.os.length then .error (2,m.place) else if 20≤M.rs.length then .error (4,m.place) else Thk.run (TL (zz T) (s.data.toList.drop (zz T))).tail (M.st.begin T.text):=by
       rw[← HI3.out.run,HTR.out]
       conv=>{ lhs;rw[hmm] }
       have e:M.st.os.length=M.os.length:=by simp[MV.st]
       rw[Thk.UZ hkd har,e];rfl
      have HR0:=z6 hrun0
      simp only[hka,ZS] at mt3
      have hne2:w2.heap.size≠w.heap.size:=by
       intro e
       have h1:=HI3.out.res
       rw[← e,HMT.out] at h1
       simp at h1
      have hne3:¬ w.heap.size=w2.heap.size:=fun e=>hne2 e.symm
      clear hrun0 hmm har
      by_cases hsg:M.sign=[]
      ·rw[hsg] at mq3
       by_cases hos : 1<M.os.length
       ·have hrun:Thk.run (TL 0 s.data.toList) Thk.S0 = .error (2,m.place):=by rw[HR0.out,if_pos (.inr hos)]
        go_wp2_with fail
        go_region
        all_goals go_wp2_with fail
        all_goals refine bodyPost_ret (v:=.tuple #[ZP,.int .i64 2,.int .i64 m.place]) (by simp[results,Tryz.results64,go_sem,rq3,n30];done) rfl ⟨?_,?_⟩
        ·exact ((HI3.out.below.setCell (Nat.le_refl _) _).setCell (Nat.le_refl _) _).drew
        ·rw[if_neg hl,hrun];rfl
       ·have hos1:(M.os.length:Int)≤1:=by omega
        have hdec:decide ((1:Int)<M.os.length)=false:=by simp;omega
        by_cases h20 : 20≤M.rs.length
        ·have hrun:Thk.run (TL 0 s.data.toList) Thk.S0 = .error (4,m.place):=by rw[HR0.out,if_neg (by rintro (h' | h');exact h' hsg;exact hos h'),if_pos h20]
         clear hos
         go_wp2_with fail
         go_region
         all_goals go_wp2_with fail
         all_goals refine bodyPost_ret (v:=.tuple #[ZP,.int .i64 4,.int .i64 m.place]) (by simp[results,Tryz.results64,go_sem,rq3,n30];done) rfl ⟨?_,?_⟩
         ·exact ((HI3.out.below.setCell (Nat.le_refl _) _).setCell (Nat.le_refl _) _).drew
         ·rw[if_neg hl,hrun];rfl
        ·have hrun:Thk.run (TL 0 s.data.toList) Thk.S0=Thk.run (TL (zz T) (s.data.toList.drop (zz T))).tail (M.st.begin T.text):=by rw[HR0.out,if_neg (by rintro (h' | h');exact h' hsg;exact hos h'),if_neg h20]
         have HRUN:=z6 hrun
         obtain⟨hmTL,hk2⟩:=Vf HM.out (by rw[hka];rfl)
         have HMTL:=z6 hmTL
         have hkr:zz T≤s.size:=by rw[HT.out];exact YH s k hk
         have hkm:zz m≤s.size:=by rw[HM.out];exact YH s _ hkr
         have h20':(M.rs.length:Int)<20:=by omega
         have hru:=zi9 w3 (w.heap.size+1) (w.heap.size+1) M lab HI3.out.mem HI3.out.ok k HI3.out.bd (by have:=HS.out;omega)
         have hst1:Thk.Q5 (M.st.begin T.text):=HI3.out.ok.begin T.text hsg
         have hbd1:Thk.Bd (zz m) (M.st.begin T.text):=(HI3.out.bd.begin (by simp[MV.st];omega) (by have:M.st.rs.length=M.rs.length:=rfl;omega) T.text HI3.out.ok.ne).mono (by omega)
         have HST:=z6 (And.intro hst1 hbd1)
         have hrtx:Z1 T=T.text:=by simp[Z1,hkd]
         have HRTX:=z6 hrtx
         clear hrtx
         have HSG:=z6 hsg
         clear hos hrun hmTL hst1 hbd1 hsg
         go_wp2_with fail
         refine hru.mono ?_
         rintro _ w4 ⟨rfl,M4,lab4,hM4,hK4,hS4⟩
         have hz4:=hK4.size
         have hr4:w4.heap[w.heap.size]? = some JZ:=by rw[hK4.low _ (by omega)];exact HI3.out.res
         have ht4:w4.heap[w1.heap.size]? = _:=(hK4.ty _ _ _ _ HI3.out.tok (by decide)).trans HI3.out.tok
         rw[← HT.out] at ht4
         have tq4:=z8 ht4
         obtain⟨xa4,xc4,hvx4⟩:=zl hM4.ex
         obtain⟨ra4,rc4,hvr4⟩:=zl hM4.ru
         obtain⟨oa4,oc4,hvo4⟩:=zl hM4.op
         have hblk4:=hM4.blk
         rw[hvx4,hvr4,hvo4] at hblk4
         have mq4:=z8 hblk4
         have mf4:=zi hblk4
         have n41:w.heap.size+1<w4.heap.size:=za hblk4
         have n46:w1.heap.size<w4.heap.size:=za ht4
         have hrs4:M4.rs.length=M.rs.length:=by
          have:M4.st.rs=M.st.rule.rs:=by rw[hS4]
          have e1:M4.rs=M.st.rule.rs:=this
          rw[e1]
          unfold Thk.ST.rule
          split
          ·rfl
          ·rename_i hne
           have : 0<M.st.rs.length:=List.length_pos_iff.2 hne
           simp
           have e2:M.st.rs.length=M.rs.length:=rfl
           omega
         have hrs5:M4.rs.length≤20:=by omega
         clear hrs4
         obtain⟨i1,hi1,hy0,hy1,hy2⟩:=info_parts Tryz.infoRRule
         have hownR:w4.ownsRow (w.heap.size+1) 90 2 (.slice ra4 M4.rs.length rc4) M4.rs.length (M4.rs.flatMap ruC):=by rw[← hvr4];exact hM4.ru
         have HOWNR:=z6 hownR
         have hnb:((w4.alloc (.cells #[.string ⟨(Z1 T).toArray⟩,.int .i64 0] 90)).drew).heap[w4.heap.size]? = some (.cells #[.string ⟨(Z1 T).toArray⟩,.int .i64 0] 90 (0,0)):=zk _ _
         have HNB:=z6 hnb
         have H1C:Hid (∀ u ∈ [Value.string ⟨(Z1 T).toArray⟩,.int .i64 0],u.oneCell'=true):=by
          intro u hu
          simp at hu
          rcases hu with rfl | rfl<;>rfl
         have HML:Hid (M4.rs.length+1≤maxLen):=by show _≤_;unfold maxLen;omega
         have n1:some (w.heap.size+1)≠(Value.slice ra4 M4.rs.length rc4).ownBlock:=fun e=>zn hownR hblk4 (by decide) e.symm
         have HM4:=z6 hM4
         have HK4:=z6 hK4
         have HS4:=z6 hS4
         have HVR4:=z6 hvr4
         have HB4:=z6 hblk4
         clear hru hM4 hK4 hS4 hr4 hvx4 hvr4 hvo4 hownR hnb hblk4 ht4
         go_wp2_with fail
         go_cut [9] from 20 to 197 (fun e9 wx=>e9 = .int .i64 0∧zaR (w.heap.size+1) w4 wx M4 (Z1 T))
         case first=>
          have z1:w4.cell? ⟨w.heap.size+1,1,none⟩=some (.slice ra4 M4.rs.length rc4):=mq4 1
          have z2:(w4.alloc (.cells #[.string ⟨(Z1 T).toArray⟩,.int .i64 0] 90)).cell? ⟨w.heap.size+1,1,none⟩=some (.slice ra4 M4.rs.length rc4):=by rw[World.cell?_alloc_lt _ _ _ n41];exact z1
          have z3:(w4.alloc (.cells #[.string ⟨(Z1 T).toArray⟩,.int .i64 0] 90)).frozen? ⟨w.heap.size+1,1,none⟩=false:=by rw[World.frozen?_alloc_old _ _ _ (by simp only[];omega)];exact mf4 1
          go_region_law ((refine step_append_lies _ (by rfl) _ _ _ (by rfl) (w.heap.size+1) 90 i1 _ 2 24 Tryz.underlying83 hi1 hy0 hy1 hy2 (by rfl) (by decide) _ _ _ (by rfl) (HOWNR.out.alloc _) ⟨w4.heap.size,0,none⟩ 1 1 [.string ⟨(Z1 T).toArray⟩,.int .i64 0] (by rfl) (by rfl) (World.news_of_block HNB.out) H1C.out (by decide) HML.out (by omega) (by simp;omega) (w4.heap.size+1) (by simp) ?_;intro g cap w5 hown5 hgrow hat hlt5;have y1:=(hgrow.frozen_far ⟨w.heap.size+1,1,none⟩ (by simp;omega) n1).trans z3;have y2:w5.cell? ⟨w.heap.size+1,1,none⟩=some (.slice ra4 M4.rs.length rc4):=(hgrow.cell_far ⟨w.heap.size+1,1,none⟩ (by simp;omega) n1).trans z2;have HP:=z6 (zip HM4.out HVR4.out hown5 hgrow hat);clear hown5 hgrow hat))
          all_goals (try go_wp2_with fail)
          all_goals go_meet
          all_goals exact⟨rfl,HP.out⟩
         case rest=>
          obtain⟨rfl,hC⟩:=hcut
          obtain⟨M5,lab5,hM5,hK5,hS5⟩:=hC
          have hKc:=HK4.out.trans hK5
          have hos5:M5.os.length≤6:=by
           have h1:=HST.out.2.os
           have h2:M5.st.os=M.st.rule.os:=by rw[hS5,← HS4.out]
           have h3:(M.st.begin T.text).os=M.st.rule.os++[⟨[],[],[]⟩]:=rfl
           rw[h3,← h2] at h1
           simp[MV.st] at h1;exact h1
          obtain⟨xa5,xc5,hvx5⟩:=zl hM5.ex
          obtain⟨ra5,rc5,hvr5⟩:=zl hM5.ru
          obtain⟨oa5,oc5,hvo5⟩:=zl hM5.op
          have hblk5:=hM5.blk
          have hblk5':=hM5.blk
          rw[hvx5,hvr5,hvo5] at hblk5
          have mq5:=z8 hblk5
          have mf5:=zi hblk5
          have n51:w.heap.size+1<wc.heap.size:=za hblk5
          have hownO:wc.ownsRow (w.heap.size+1) 209 3 (.slice oa5 M5.os.length oc5) M5.os.length (M5.os.flatMap opC):=by rw[← hvo5];exact hM5.op
          obtain⟨i2,hi2,hx0,hx1,hx2⟩:=info_parts Tryz.infoOpen
          have HMO:Hid (M5.os.length+1≤maxLen):=by show _≤_;unfold maxLen;omega
          have HM5:=z6 hM5
          have HKC:=z6 hKc
          have HS5:=z6 hS5
          have HVO5:=z6 hvo5
          have HB5:=z6 hblk5'
          clear hM5 hK5 hS5 hKc hvx5 hvr5 hvo5 hblk5 hblk5' mq4 mf4 tq4
          go_wp2_with (first | (at_builtin;refine wpList_append_lies _ rfl _ _ 202 rfl (w.heap.size+1) 209 i2 _ 3 64 Tryz.underlying202 hi2 hx0 hx1 hx2 rfl (by decide) _ _ _ rfl (hownO.alloc _) ⟨wc.heap.size,0,none⟩ 1 1 [.slice none 0 0,.slice none 0 0,.string ⟨#[]⟩] rfl rfl ?c1 ?c2 (by decide) HMO.out ?c4 ?c5 (wc.heap.size+1) (by simp) ?_))
          case c2=>exact⟨rfl,rfl⟩
          case c4=>omega
          case c5=>omega
          intro g6 cap6 w6 hown6 hgrow6 hat6 hgl6
          have hMW:=HM5.out.below (lab':=lab5) (w':=wc.alloc (.cells #[.slice none 0 0,.slice none 0 0,.string ⟨#[]⟩] 209)) (zc _ _) (fun _ _=>rfl)
          have hPO:=hMW.pushOpen (sg:=[]) hown6 (by rw[HVO5.out];exact hgrow6) (by rw[HVO5.out];simpa using hat6)
          have hoth:∀ {b:Nat} {cs:Array Value} {t:TypeId},wc.heap[b]? = some (.cells cs t (0,0))→209≠t→w6.heap[b]? = some (.cells cs t (0,0)):=by
           intro b cs t hb ht
           rw[hgrow6.block b (by simp;have:=za hb;omega) (fun e=>zn hownO hb ht e.symm),zm _ _ (za hb)];exact hb
          have hrb6:=hoth HB5.out (by decide)
          have htc:wc.heap[w1.heap.size]? = _:=(HKC.out.ty _ _ _ _ HI3.out.tok (by decide)).trans HI3.out.tok
          have hmc:wc.heap[w2.heap.size]? = _:=(HKC.out.ty _ _ _ _ HMT.out (by decide)).trans HMT.out
          have ht6:=hoth htc (by decide)
          have hm6:=hoth hmc (by decide)
          have d2:w6.cell? ⟨w.heap.size+1,2,none⟩=some M5.vo:=z8 hrb6 2
          have d4:w6.cell? ⟨w.heap.size+1,4,none⟩=some (.bool M5.may):=z8 hrb6 4
          have df:=zi hrb6
          have mq6:=z8 hm6
          have n61:w.heap.size+1<w6.heap.size:=za hrb6
          have n67:w2.heap.size<w6.heap.size:=za hm6
          have hne7:¬ w2.heap.size=w.heap.size+1:=by
           intro e;rw[e,hrb6] at hm6;simp at hm6
          obtain⟨h1,k1⟩:=hPO
          obtain⟨h2,k2⟩:=h1.setMay false
          have hKT:KT (w.heap.size+1) w3 (((w6.setCell ⟨w.heap.size+1,2,none⟩ (.slice (some ⟨g6,0,none⟩) (M5.os.length+1) cap6))).setCell ⟨w.heap.size+1,4,none⟩ (.bool false)):=HKC.out.trans ((KT.alloc _ wc (by omega) _).trans (k1.trans k2))
          have H2:=z6 h2
          have HKT:=z6 hKT
          have HT6:=z6 (hKT.ty _ _ _ _ HI3.out.tok (by decide))
          have hn7:=HNX.out (zz m) (((w6.setCell ⟨w.heap.size+1,2,none⟩ (.slice (some ⟨g6,0,none⟩) (M5.os.length+1) cap6))).setCell ⟨w.heap.size+1,4,none⟩ (.bool false)) hkm
          obtain⟨W7,hW7⟩:∃ W,W=(((w6.setCell ⟨w.heap.size+1,2,none⟩ (.slice (some ⟨g6,0,none⟩) (M5.os.length+1) cap6))).setCell ⟨w.heap.size+1,4,none⟩ (.bool false)):=⟨_,rfl⟩
          have HW7:=z6 hW7
          clear hW7 hMW hoth hrb6 htc hmc ht6 hm6 h1 k1 h2 k2 hKT hownO hown6 hgrow6 hat6
          go_wp2_with fail
          refine hn7.mono ?_
          rintro _ w7 ⟨v7,rfl,hb7,hit7⟩
          obtain⟨a7,c7,rfl⟩:=zl hit7
          have hsz7:=hb7.size
          simp at hsz7
          have hB7:w.heap.size+1≤(((w6.setCell ⟨w.heap.size+1,2,none⟩ (.slice (some ⟨g6,0,none⟩) (M5.os.length+1) cap6))).setCell ⟨w.heap.size+1,4,none⟩ (.bool false)).heap.size:=by simp;omega
          have hKK:KT (w.heap.size+1) w3 w7:=HKT.out.trans (KT.of_below hb7 hB7)
          have hM7:=H2.out.below hb7 (lab':=lab5) (fun _ _=>rfl)
          have hSB:({ M5 with vo:=.slice (some ⟨g6,0,none⟩) (M5.os.length+1) cap6,os:=M5.os++[(⟨[],[],[]⟩,.slice none 0 0,.slice none 0 0)],may:=false }:MV).st=M.st.begin T.text:=by
           have e5:=HS5.out
           rw[HS4.out,HRTX.out] at e5
           have e6:({ M5 with vo:=.slice (some ⟨g6,0,none⟩) (M5.os.length+1) cap6,os:=M5.os++[(⟨[],[],[]⟩,.slice none 0 0,.slice none 0 0)],may:=false }:MV).st = { M5.st with os:=M5.st.os++[⟨[],[],[]⟩],may:=false }:=by simp[MV.st]
           rw[e6,e5];rfl
          have hnew:=HI3.out.goK hkm rfl (Zn hit7 hB7) hM7 hKK (by rw[HI3.out.run,HRUN.out,HMTL.out];exact congrArg _ hSB.symm) (by rw[hSB];exact HST.out.1) (by rw[hSB];exact HST.out.2)
          have HNEW:=z6 hnew
          have ht7:w7.heap[w1.heap.size]? = _:=(hKK.ty _ _ _ _ HI3.out.tok (by decide)).trans HI3.out.tok
          have tq7:=z8 ht7
          have tf7:=zi ht7
          have n76:w1.heap.size<w7.heap.size:=za ht7
          simp only[ZN]
          clear hn7 hb7 hit7 hKK hM7 hSB hnew ht7
          go_wp2
          go_roundg (s.size+1 - zz m)
          case rel=>exact⟨zz m,_,lab5,a7,c7,rfl,HNEW⟩
          case measure=>omega
      ·have hse:M.sign.isEmpty=false:=by simpa using hsg
       have hrun:Thk.run (TL 0 s.data.toList) Thk.S0 = .error (2,m.place):=by rw[HR0.out,if_pos (.inl hsg)]
       clear hsg
       go_wp2_with fail
       go_region
       all_goals go_wp2_with fail
       all_goals refine bodyPost_ret (v:=.tuple #[ZP,.int .i64 2,.int .i64 m.place]) (by simp[results,Tryz.results64,go_sem,rq3,n30];done) rfl ⟨?_,?_⟩
       ·exact ((HI3.out.below.setCell (Nat.le_refl _) _).setCell (Nat.le_refl _) _).drew
       ·rw[if_neg hl,hrun];rfl
     ·have har':m.kind.isArrow=false:=by simpa using har
      have hrk:¬ (ZS m.kind:Int)=2:=by
       cases hq:m.kind<;>simp[ZS,hq,Thk.TK.isArrow] at har' ⊢
      have HMT2:Hid (TL (zz T) (s.data.toList.drop (zz T))=m::(TL (zz T) (s.data.toList.drop (zz T))).tail∧m.kind.isArrow=false):=⟨hmm,har'⟩
      clear hmm har har'
      by_cases hrs:M.rs=[]
      ·have hrun:Thk.run (TL 0 s.data.toList) Thk.S0 = .error (2,m.place):=by
        rw[← HI3.out.run,HTR.out,HMT2.out.1,Thk.run.eq_def];simp[hkd,MV.st,hrs,HMT2.out.2]
       have hrl0:M.rs.length=0:=by rw[hrs];rfl
       rw[hrl0] at mq3
       have hfi:=fun w'=>VN w' (w.heap.size+1) 1 T.place (zz T) (ZS m.kind) m.place (zz m) ⟨(Z1 T).toArray⟩ ⟨(Z1 m).toArray⟩ a a2 (zr T).length c (zr m).length c2
       have HFI:=z6 hfi
       clear hrs hrl hrl0 hfi
       go_wp2_with fail
       refine (HFI.out w3).mono ?_
       rintro _ w5 ⟨rfl,hb5⟩
       have hI5:=HI3.out.kept hb5
       have rq5:=z8 hI5.res
       have rf5:=zi hI5.res
       have n50:w.heap.size<w5.heap.size:=za hI5.res
       have HI5:=z6 hI5
       clear hb5 hI5 HFI
       simp only[ZP]
       go_wp2_with fail
       refine bodyPost_ret (v:=.tuple #[ZP,.int .i64 2,.int .i64 m.place]) (by simp[results,Tryz.results64,go_sem,rq5,n50];done) rfl ⟨?_,?_⟩
       ·exact (HI5.out.below.setCell (Nat.le_refl _) _).setCell (Nat.le_refl _) _
       ·rw[if_neg hl,hrun];rfl
      ·have hr0 : 0<M.rs.length:=List.length_pos_iff.2 hrs
       have hr1:¬ M.rs.length=0:=by omega
       have hor:M.os≠[]:=by
        have:=HI3.out.ok.ne hrs
        simpa [MV.st] using this
       obtain⟨mr,m0,hoo⟩:∃ mr m0,M.os=mr++[m0]:=⟨M.os.dropLast,M.os.getLast hor,(List.dropLast_concat_getLast hor).symm⟩
       have hbx:=HI3.out.bd.xs
       have hbe:=HI3.out.bd.each m0.1 (by simp[MV.st,hoo])
       have hxl:M.st.xs.length=M.xs.length:=by simp[MV.st]
       have hmrl:mr.length≤7:=by have:=hol;rw[hoo] at this;simp at this;omega
       have hk2000:k≤2000:=by have:=HS.out;omega
       have hE:Thk.Zb T=⟨4,zr T,Z1 T,0,[]⟩:=by simp[Thk.Zb,zr,Z1,hkd,dup]
       obtain⟨h1,k1⟩:=HI3.out.mem.setSign []
       have hti:Items (w3.setCell ⟨w.heap.size+1,3,none⟩ (.string ⟨([]:Thk.z7).toArray⟩)) (w.heap.size+1) (.slice a (zr T).length c) (zr T):=by
        have hi:=HI3.out.items
        rw[← HT.out] at hi
        exact UK k1 hi
       obtain⟨W,hW⟩:∃ W,W=(w3.setCell ⟨w.heap.size+1,3,none⟩ (.string ⟨([]:Thk.z7).toArray⟩)).alloc (.cells #[.int .i64 4,.slice a (zr T).length c,.string ⟨(Z1 T).toArray⟩,.int .i64 0,.slice none 0 0] 149):=⟨_,rfl⟩
       have h2:Mem W (w.heap.size+1) (w.heap.size+1) { M with sign:=[] } lab (· = 0):=by rw[hW];exact h1.below (zc _ _) (fun _ _=>rfl)
       have k2:KT (w.heap.size+1) w3 W:=by rw[hW];exact k1.trans (KT.alloc _ _ (by have:=k1.size;omega) _)
       have hti2:Items W (w.heap.size+1) (.slice a (zr T).length c) (zr T):=by rw[hW];exact hti.alloc _
       have had:=YG W (w.heap.size+1) (w.heap.size+1) xa xc M.xs.length M.vr M.vo [] M.may (M.xs.flatMap exC) 4 a (zr T).length c ⟨(Z1 T).toArray⟩ 0 none 0 0 (by rw[← HVX.out];exact h2.blk) (by rw[← HVX.out];exact h2.ex) (by omega) (Nat.le_refl _)
       simp only[show ((4:Nat):Int)=4 from rfl] at had
       have H2:=z6 h2
       have K2:=z6 k2
       have HTI:=z6 hti2
       have HO:=z6 hoo
       have HEX:=z6 hE
       have HRS:=z6 hrs
       have HSG:=z6 (VJ HI3.out.ok.sg)
       have f33:=mf3 3
       clear hrs h1 k1 hti h2 k2 hti2 hoo hor hE
       have hxb:W.heap[w3.heap.size]? = some (.cells #[.int .i64 4,.slice a (zr T).length c,.string ⟨(Z1 T).toArray⟩,.int .i64 0,.slice none 0 0] 149):=by rw[hW];exact Ji _ _ _ (by simp)
       have xq:=z8 hxb
       clear hxb
       go_upto_region 17 with fail
       rw[← hW]
       clear hW
       go_wp2_with fail
       refine had.mono ?_
       rintro _ w5 ⟨xg,xcap,rfl,hAE⟩
       obtain⟨hM5,hK5⟩:=H2.out.add (re:=Thk.Zb T) (iv:=.slice a (zr T).length c) (pv:=.slice none 0 0) (by rw[HVX.out,HEX.out];exact hAE) (by rw[HEX.out];exact HTI.out) (by rw[HEX.out];exact World.ownsRow_nil _ _ _ _) (fun b hb=>by simp[Value.ownBlock] at hb)
       have htm:=VP w5 (w.heap.size+1) (w.heap.size+1) _ lab hM5 mr m0 HO.out M.xs.length M.sign HSG.out (by simp;omega) (by omega) (by omega)
       have HK5:=z6 hK5
       clear had hAE hM5 hK5
       go_wp2_with fail
       refine htm.mono ?_
       rintro _ w6 ⟨rfl,M6,lab6,hM6,hK6,hS6⟩
       have hKK:KT (w.heap.size+1) w3 w6:=K2.out.trans (HK5.out.trans hK6)
       have hSS:M6.st=M.st.lay (Thk.Zb T):=by rw[hS6];simp[MV.st,Thk.ST.add,Thk.ST.lay]
       have hne':M.st.os≠[]:=by simp[MV.st,HO.out]
       have hnew:=HI3.out.go HT.out HM.out HMI.out hM6 hKK (by rw[HTR.out,hSS];conv=>{ lhs;rw[HMT2.out.1] };rw[Thk.zcx hkd (show M.st.rs≠[] from HRS.out) HMT2.out.2,← HMT2.out.1]) (by rw[hSS];exact HI3.out.ok.lay hne' (Thk.qT T)) (by rw[hSS];exact (HI3.out.bd.lay hne' _).mono hk1)
       have HNEW:=z6 hnew
       have ht6:w6.heap[w1.heap.size]? = _:=(hKK.ty _ _ _ _ HI3.out.tok (by decide)).trans HI3.out.tok
       rw[← HT.out] at ht6
       have tq6:=z8 ht6
       have tf6:=zi ht6
       have hm6:w6.heap[w2.heap.size]? = _:=(hKK.ty _ _ _ _ HMT.out (by decide)).trans HMT.out
       have mt6:=z8 hm6
       have n66:w1.heap.size<w6.heap.size:=za ht6
       have n67:w2.heap.size<w6.heap.size:=za hm6
       clear htm hM6 hK6 hS6 hKK hSS hnew ht6 hm6
       go_wp2
       go_roundg (s.size+1 - zz T)
       case rel=>exact⟨zz T,M6,lab6,a2,c2,rfl,HNEW⟩
       case measure=>omega
end Go.Proofs.YtiganlkabilblaaGreatDoor
