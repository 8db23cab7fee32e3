import Derived.Test.YtiganlkabilblaaGreatDoorV00
import Derived.Test.YtiganlkabilblaaGreatDoorV11
import Derived.Deep.RegionHeldLaw
import Derived.Deep.RegionLaw
import Derived.Deep.DrawnRows
set_option linter.all false
set_option maxHeartbeats 64000000
set_option maxRecDepth 100000
namespace Thk
structure RE where
 kind:Nat
 items:List zR
 text:z7
 rule:Int
 parts:List Nat
structure OP where
 seqs:List Nat
 terms:List Nat
 sign:z7
structure ST where
 xs:List RE
 rs:List (z7 × Nat)
 os:List OP
 sign:z7
 may:Bool
def zE (b:z7):Nat:=if b=[63] then 7 else if b=[42] then 8 else if b=[43] then 9 else if b=[38] then 10 else 11
def zy (k e:Nat):RE:=⟨k,[],[],0,[e]⟩
def ST.add (S:ST) (e:RE):ST:={ S with xs:=S.xs++[e] }
def ST.top (S:ST):OP:=S.os.getLastD ⟨[],[],[]⟩
def ST.setTop (S:ST) (o:OP):ST:={ S with os:=S.os.dropLast++[o] }
def ST.push (S:ST) (e:Nat):ST:={ S.setTop { S.top with terms:=S.top.terms++[e] } with may:=true }
def ST.term (S:ST) (e:Nat) (sign:z7):ST:=if sign=[] then S.push e else (S.add (zy (zE sign) e)).push S.xs.length
def RE.z:RE:=⟨0,[],[],0,[]⟩
def ST.behind (S:ST) (sign:z7):ST:=
 let k:=S.top.terms.getLastD 0
 let x:=S.xs.getD k RE.z
 if x.kind=10∨x.kind=11 then
  { S with xs:=(S.xs++[zy (zE sign) (x.parts.headD 0)]).set k { x with parts:=[S.xs.length] },may:=false }
 else { (S.add (zy (zE sign) k)).setTop { S.top with terms:=S.top.terms.dropLast++[S.xs.length] } with may:=false }
def ST.slash (S:ST):ST:=(S.add ⟨5,[],[],0,S.top.terms⟩).setTop ⟨S.top.seqs++[S.xs.length],[],S.top.sign⟩
def ST.closed (S:ST):ST:=({ S.slash with os:=S.os.dropLast }:ST).add ⟨6,[],[],0,S.top.seqs++[S.xs.length]⟩
end Thk
namespace Go.Proofs.YtiganlkabilblaaGreatDoor
open Go.RowKit
attribute [local go_sem ↓] Go.wp_at_zero Go.wp_at_succ
theorem Tryz.infoExpr:(Tryz.prog.info? 149).map (fun i=>(i.zero,i.size,i.bytes))=some (some (.agg #[.int .i64 0,.slice none 0 0,.string ⟨#[]⟩,.int .i64 0,.slice none 0 0]),5,80):=by kernel_rfl
def exC (p:Thk.RE × Value × Value):List Value:=[.int .i64 p.1.kind,p.2.1,.string ⟨p.1.text.toArray⟩,.int .i64 p.1.rule,p.2.2]
def ruC (r:Thk.z7 × Nat):List Value:=[.string ⟨r.1.toArray⟩,.int .i64 r.2]
def opC (p:Thk.OP × Value × Value):List Value:=[p.2.1,p.2.2,.string ⟨p.1.sign.toArray⟩]
def Zq (n:Nat):Value:=.int .i64 n
def Ints (w:World) (B:Nat) (v:Value) (ns:List Nat):Prop:=w.ownsRow B 3 1 v ns.length (ns.map Zq)
abbrev rdO (vx vr vo:Value) (sg:Thk.z7) (may:Bool):Obj:=.cells #[vx,vr,vo,.string ⟨sg.toArray⟩,.bool may] 204 (0,0)
structure qn (w:World) (B rb:Nat) (vx vr vo:Value) (sg:Thk.z7) (may:Bool) (cs news:List Value) (n:Nat) (w':World) (g cap:Nat):Prop where
 blk:w'.heap[rb]? = some (rdO (.slice (some ⟨g,0,none⟩) (n+1) cap) vr vo sg may)
 own:w'.ownsRow B 149 5 (.slice (some ⟨g,0,none⟩) (n+1) cap) (n+1) (cs++news)
 at_:vx.ownBlock=some g∨w.heap.size≤g
 size:w.heap.size≤w'.heap.size
 same:∀ k,k<w.heap.size→k≠rb→some k≠vx.ownBlock→w'.heap[k]? = w.heap[k]?
 os:w'.os=w.os
 tape:w'.tape=w.tape
 output:w'.output=w.output
theorem zc1 {w:World} {b o:Nat} {u:Value} {base:Nat} {e:TypeId} {size:Nat} {v:Value} {n:Nat} {xs:List Value} (h:w.ownsRow base e size v n xs) (hb:v.ownBlock≠some b):(w.setCell ⟨b,o,none⟩ u).ownsRow base e size v n xs:=
 Z6 h (fun g hg=>Below.heap_setCell _ _ _ _ (fun e=>hb (by rw[hg,e])))
theorem zdK {w:World} {B rb:Nat} {xa:Option Addr} {xc n:Nat} {vr vo:Value} {sg:Thk.z7} {may:Bool} {cs news:List Value} {O1 O2:Obj} {w1:World} {g cap:Nat}
    (hr:w.heap[rb]? = some (rdO (.slice xa n xc) vr vo sg may)) (hne:∀ g,(Value.slice xa n xc).ownBlock=some g→g≠rb)
    (ho:w1.ownsRow B 149 5 (.slice (some ⟨g,0,none⟩) (n+1) cap) (n+1) (cs++news)) (hg:((w.alloc O1).alloc O2).drew.grownBy w1 (Value.slice xa n xc).ownBlock)
    (hat:(Value.slice xa n xc).ownBlock=some g∨g=w.heap.size+2) :
    qn w B rb (.slice xa n xc) vr vo sg may cs news n (w1.setCell ⟨rb,0,none⟩ (.slice (some ⟨g,0,none⟩) (n+1) cap)) g cap:=by
  have hrl:=za hr
  have hsz:=hg.size
  rw[show (((w.alloc O1).alloc O2).drew).heap.size=w.heap.size+2 from by show ((w.alloc O1).alloc O2).heap.size=_;simp] at hsz
  have hgr : g ≠ rb := by rcases hat with h | h
                          · exact hne g h
                          · omega
  have hold:∀ k,k<w.heap.size→some k≠(Value.slice xa n xc).ownBlock→w1.heap[k]? = w.heap[k]? := by
    intro k hk hk2
    rw[hg.block k (by show k<((w.alloc O1).alloc O2).heap.size;simp;omega) hk2]
    show ((w.alloc O1).alloc O2).heap[k]? = _
    rw[zm _ _ (by simp;omega),zm _ _ hk]
  have hr1:w1.heap[rb]? = some (rdO (.slice xa n xc) vr vo sg may):=by rw[hold rb hrl (fun e=>hne rb e.symm rfl)];exact hr
  refine⟨?_,?_,?_,by simp;omega,?_,hg.os,hg.tape,hg.output⟩
  · rw[Jo hr1];rfl
  · exact zc1 ho (by simpa [Value.ownBlock] using hgr)
  · rcases hat with h | h
    · exact .inl h
    · right;omega
  · intro k hk h1 h2
    rw[Below.heap_setCell _ _ _ _ h1];exact hold k hk h2
theorem YG (w:World) (B rb:Nat) (xa:Option Addr) (xc n:Nat) (vr vo:Value) (sg:Thk.z7) (may:Bool) (cs:List Value) (k:Nat) (ia:Option Addr) (il ic:Nat) (t:ByteArray) (r:Int) (pa:Option Addr) (pl pc:Nat)
  (hr:w.heap[rb]? = some (rdO (.slice xa n xc) vr vo sg may)) (hown:w.ownsRow B 149 5 (.slice xa n xc) n cs) (hn:n≤100000) (hB:B≤rb) :
  Calls Tryz.prog 102 #[.pointer (some ⟨rb,0,none⟩),.agg #[.int .i64 k,.slice ia il ic,.string t,.int .i64 r,.slice pa pl pc]] w fun e w'=>
   ∃ g cap,e = .returned (.int .i64 n)∧qn w B rb (.slice xa n xc) vr vo sg may cs [.int .i64 k,.slice ia il ic,.string t,.int .i64 r,.slice pa pl pc] n w' g cap:=by
 obtain⟨i0,hi,hz0,hz1,hz2⟩:=info_parts Tryz.infoExpr
 have hq:=z8 hr
 have hf:=zi hr
 have hrl:=za hr
 have c0:=hq 0
 have hlt:=fun g e=>(hown.lt g e).2
 have hge:=fun g e=>(hown.lt g e).1
 have hne:∀ g,(Value.slice xa n xc).ownBlock=some g→g≠rb:=by
  intro g hg e
  subst e
  rcases hown.2 with ⟨hv,_⟩ | ⟨g',cap',cur,hv,_,hg',_⟩
  ·rw[hv] at hg;simp[Value.ownBlock] at hg
  ·rw[hv] at hg;simp[Value.ownBlock] at hg;subst hg;rw[hr] at hg';simp at hg'
 have n1:some rb≠(Value.slice xa n xc).ownBlock:=fun e=>hne _ e.symm rfl
 have n2:some w.heap.size≠(Value.slice xa n xc).ownBlock:=fun e=>Nat.lt_irrefl _ (hlt _ e.symm)
 have hnb:(((w.alloc (.cells #[.int .i64 k,.slice ia il ic,.string t,.int .i64 r,.slice pa pl pc] 149)).alloc (.cells #[.int .i64 k,.slice ia il ic,.string t,.int .i64 r,.slice pa pl pc] 149)).drew).heap[w.heap.size+1]? = some (.cells #[.int .i64 k,.slice ia il ic,.string t,.int .i64 r,.slice pa pl pc] 149 (0,0)):=by
  show ((w.alloc _).alloc _).heap[_]? = _
  rw[show w.heap.size+1=(w.alloc (.cells #[.int .i64 k,.slice ia il ic,.string t,.int .i64 r,.slice pa pl pc] 149)).heap.size from by simp];exact heap_alloc_new _ _
 have HNB:=(show Hid _ from hnb)
 have z1:(w.alloc (.cells #[.int .i64 k,.slice ia il ic,.string t,.int .i64 r,.slice pa pl pc] 149)).frozen? ⟨rb,0,none⟩=false:=by rw[World.frozen?_alloc_old _ _ _ (by simp only[];omega)];exact hf 0
 have z2:((w.alloc (.cells #[.int .i64 k,.slice ia il ic,.string t,.int .i64 r,.slice pa pl pc] 149)).alloc (.cells #[.int .i64 k,.slice ia il ic,.string t,.int .i64 r,.slice pa pl pc] 149)).frozen? ⟨rb,0,none⟩=false:=by rw[World.frozen?_alloc_old _ _ _ (by simp;omega)];exact z1
 have H1:Hid (∀ u ∈ [Value.int .i64 k,.slice ia il ic,.string t,.int .i64 r,.slice pa pl pc],u.oneCell'=true):=by
  intro u hu
  simp at hu
  rcases hu with rfl | rfl | rfl | rfl | rfl<;>rfl
 have HNE:Hid (∀ g,(Value.slice xa n xc).ownBlock=some g→g≠rb):=hne
 have z3:(((w.alloc (.cells #[.int .i64 k,.slice ia il ic,.string t,.int .i64 r,.slice pa pl pc] 149)).alloc (.cells #[.int .i64 k,.slice ia il ic,.string t,.int .i64 r,.slice pa pl pc] 149)).drew).cell? ⟨rb,0,none⟩=some (.slice xa n xc):=by
  show ((w.alloc _).alloc _).cell? _=_
  rw[World.cell?_alloc_lt _ _ _ (by simp;omega),World.cell?_alloc_lt _ _ _ (by simp only[];omega)];exact c0
 have HR:Hid (w.heap[rb]? = some (rdO (.slice xa n xc) vr vo sg may)):=hr
 have HOWN:Hid (w.ownsRow B 149 5 (.slice xa n xc) n cs):=hown
 have HM:Hid (n+1≤maxLen):=by show _≤_;unfold maxLen;omega
 clear hne hr hown hlt hge hq hnb
 go_enter Tryz.func102,Tryz.ntmps102
 go_wp2_with fail
 go_region_law
  ((refine step_append_lies _ (by rfl) _ _ _ (by rfl) B 149 i0 _ 5 80 Tryz.underlying82 hi hz0 hz1 hz2 (by rfl) (by decide) _ _ _ (by rfl) ((HOWN.out.alloc _).alloc _) ⟨w.heap.size+1,0,none⟩ 1 1 [.int .i64 k,.slice ia il ic,.string t,.int .i64 r,.slice pa pl pc] (by rfl) (by rfl) (World.news_of_block HNB.out) H1.out (by decide) HM.out (by omega) (by simp;omega) (w.heap.size+2) (by simp) ?_;intro g cap w1 hown1 hgrow hat hlt;have y1:=(hgrow.frozen_far ⟨rb,0,none⟩ (by simp;omega) n1).trans z2;have y2:w1.cell? ⟨rb,0,none⟩=some (.slice xa n xc):=(hgrow.cell_far ⟨rb,0,none⟩ (by simp;omega) n1).trans z3;have HA:=zdK HR.out HNE.out hown1 hgrow hat;clear hown1 hgrow hat))
 all_goals go_wp2_with fail
 all_goals
  go_ret
  exact⟨_,_,by simp,HA⟩
end Go.Proofs.YtiganlkabilblaaGreatDoor
namespace Go.Proofs.YtiganlkabilblaaGreatDoor
open Go.RowKit
structure Chg (b:Nat) (w w':World):Prop where
 os:w'.os=w.os
 tape:w'.tape=w.tape
 output:w'.output=w.output
 size:w.heap.size≤w'.heap.size
 same:∀ k,k<w.heap.size→k≠b→w'.heap[k]? = w.heap[k]?
theorem Chg.set (b o:Nat) (u:Value) (w:World):Chg b w (w.setCell ⟨b,o,none⟩ u):=⟨rfl,rfl,rfl,by simp,fun k _ h=>Below.heap_setCell _ _ _ _ h⟩
theorem Chg.grown {b:Nat} {w w':World} {row:Option Nat} (h:w.grownBy w' row) (hr:∀ k,row=some k→k=b):Chg b w w':=
 ⟨h.os,h.tape,h.output,h.size,fun k hk hb=>h.block k hk (fun e=>hb (hr k e.symm))⟩
theorem Chg.of_below {b:Nat} {w w':World} (h:Below w.heap.size w w'):Chg b w w':=⟨h.os,h.tape,h.output,h.size,fun k hk _=>h.block k hk⟩
theorem zq {b:Nat} {w w':World} (c:Chg b w w') {base:Nat} {e:TypeId} {size:Nat} {v:Value} {n:Nat} {xs:List Value} (h:w.ownsRow base e size v n xs) (hb:v.ownBlock≠some b):w'.ownsRow base e size v n xs:=
 Z6 h (fun g hg=>c.same g (h.lt g hg).2 (fun e=>hb (by rw[hg,e])))
theorem zn {w:World} {base:Nat} {e:TypeId} {size:Nat} {v:Value} {n:Nat} {xs:List Value} (h:w.ownsRow base e size v n xs) {b:Nat} {cs:Array Value} {t:TypeId} {fr:Nat × Nat} (hb:w.heap[b]? = some (.cells cs t fr)) (ht:e≠t):v.ownBlock≠some b:=by
 intro hv
 rcases h.2 with ⟨rfl,_⟩ | ⟨g,cap,cur,rfl,_,hg,_⟩
 ·simp[Value.ownBlock] at hv
 ·simp[Value.ownBlock] at hv;subst hv;rw[hg] at hb;simp at hb;exact ht hb.2.1
theorem Qw {w:World} {base:Nat} {e:TypeId} {size:Nat} {v:Value} {n:Nat} {xs:List Value} (h:w.ownsRow base e size v n xs) {b:Nat} (hv:v.ownBlock=some b):∃ cs,w.heap[b]? = some (.cells cs e (0,0)):=by
 rcases h.2 with ⟨rfl,_⟩ | ⟨g,cap,cur,rfl,_,hg,_⟩
 ·simp[Value.ownBlock] at hv
 ·simp[Value.ownBlock] at hv;subst hv;exact⟨_,hg⟩
theorem Ki {w:World} {base:Nat} {e:TypeId} {size:Nat} {v:Value} {n:Nat} {xs:List Value} (h:w.ownsRow base e size v n xs) {base':Nat} {e':TypeId} {size':Nat} {v':Value} {n':Nat} {xs':List Value} (h':w.ownsRow base' e' size' v' n' xs') (ht:e≠e') {b:Nat} (hv:v'.ownBlock=some b):v.ownBlock≠some b:=by
 obtain⟨cs,hb⟩:=Qw h' hv
 exact zn h hb ht
def zal:List TypeId:=[204,149,90,209,3]
structure KT (B:Nat) (w w':World):Prop where
 os:w'.os=w.os
 tape:w'.tape=w.tape
 output:w'.output=w.output
 size:w.heap.size≤w'.heap.size
 low:∀ k,k<B→w'.heap[k]? = w.heap[k]?
 ty:∀ (k:Nat) (cs:Array Value) (t:TypeId) (fr:Nat × Nat),w.heap[k]? = some (Obj.cells cs t fr)→t ∉ zal→w'.heap[k]? = w.heap[k]?
theorem KT.refl (B:Nat) (w:World):KT B w w:=⟨rfl,rfl,rfl,Nat.le_refl _,fun _ _=>rfl,fun _ _ _ _ _ _=>rfl⟩
theorem KT.trans {B:Nat} {a b c:World} (h:KT B a b) (k:KT B b c):KT B a c:=
 ⟨k.os.trans h.os,k.tape.trans h.tape,k.output.trans h.output,Nat.le_trans h.size k.size,fun i hi=>(k.low i hi).trans (h.low i hi),fun i cs t fr hi ht=>(k.ty i cs t fr ((h.ty i cs t fr hi ht).trans hi) ht).trans (h.ty i cs t fr hi ht)⟩
theorem KT.alloc (B:Nat) (w:World) (hB:B≤w.heap.size) (o:Obj):KT B w (w.alloc o):=
 ⟨rfl,rfl,rfl,by simp,fun k hk=>zm _ _ (by omega),fun k cs t fr hk _=>zm _ _ (za hk)⟩
theorem KT.drew {B:Nat} {a w:World} (h:KT B a w):KT B a w.drew:=⟨h.os,h.tape,h.output,h.size,h.low,h.ty⟩
theorem KT.drewN {B:Nat} {a w:World} (h:KT B a w) (q:Nat):KT B a (w.drewN q):=⟨h.os,h.tape,h.output,h.size,h.low,h.ty⟩
theorem KT.chg {B b:Nat} {w w':World} (c:Chg b w w') (hs:B≤w.heap.size) (hB:B≤b) (ht:∀ (cs:Array Value) (t:TypeId) (fr:Nat × Nat),w.heap[b]? = some (Obj.cells cs t fr)→t ∈ zal):KT B w w':=
 ⟨c.os,c.tape,c.output,c.size,fun k hk=>c.same k (by omega) (by omega),fun k cs t fr hk htt=>c.same k (za hk) (fun e=>by subst e;exact htt (ht cs t fr hk))⟩
structure MV where
 vx:Value
 vr:Value
 vo:Value
 xs:List (Thk.RE × Value × Value)
 rs:List (Thk.z7 × Nat)
 os:List (Thk.OP × Value × Value)
 sign:Thk.z7
 may:Bool
def MV.st (M:MV):Thk.ST:=⟨M.xs.map (·.1),M.rs,M.os.map (·.1),M.sign,M.may⟩
def Lab (lab:Nat→Nat) (v:Value) (l:Nat):Prop:=∀ g,v.ownBlock=some g→lab g=l
structure Mem (w:World) (B rb:Nat) (M:MV) (lab:Nat→Nat) (P:Nat→Prop):Prop where
 ge:B≤rb
 blk:w.heap[rb]? = some (rdO M.vx M.vr M.vo M.sign M.may)
 ex:w.ownsRow B 149 5 M.vx M.xs.length (M.xs.flatMap exC)
 ru:w.ownsRow B 90 2 M.vr M.rs.length (M.rs.flatMap ruC)
 op:w.ownsRow B 209 3 M.vo M.os.length (M.os.flatMap opC)
 items:∀ p ∈ M.xs,Items w B p.2.1 p.1.items
 parts:∀ p ∈ M.xs,Ints w B p.2.2 p.1.parts∧∀ g,p.2.2.ownBlock=some g→P (lab g)
 opens:∀ k (h:k<M.os.length),Ints w B M.os[k].2.1 M.os[k].1.seqs∧Lab lab M.os[k].2.1 (2 * k+1)∧Ints w B M.os[k].2.2 M.os[k].1.terms∧Lab lab M.os[k].2.2 (2 * k+2)
theorem Mem.lt {w:World} {B rb:Nat} {M:MV} {lab:Nat→Nat} {P:Nat→Prop} (h:Mem w B rb M lab P):rb<w.heap.size:=za h.blk
theorem Mem.below {w w':World} {B rb:Nat} {M:MV} {lab lab':Nat→Nat} {P:Nat→Prop} (h:Mem w B rb M lab P) (hb:Below w.heap.size w w') (hl:∀ g,g<w.heap.size→lab' g=lab g):Mem w' B rb M lab' P:=by
 refine⟨h.ge,by rw[hb.block rb h.lt];exact h.blk,Zv h.ex hb,Zv h.ru hb,Zv h.op hb,fun p hp=>Zv (h.items p hp) hb,?_,?_⟩
 ·intro p hp
  obtain⟨h1,h2⟩:=h.parts p hp
  exact⟨Zv h1 hb,fun g hg=>by rw[hl g (h1.lt g hg).2];exact h2 g hg⟩
 ·intro k hk
  obtain⟨h1,h2,h3,h4⟩:=h.opens k hk
  exact⟨Zv h1 hb,fun g hg=>by rw[hl g (h1.lt g hg).2];exact h2 g hg,Zv h3 hb,fun g hg=>by rw[hl g (h3.lt g hg).2];exact h4 g hg⟩
theorem Mem.add {w w':World} {B rb:Nat} {M:MV} {lab:Nat→Nat} {P:Nat→Prop} (h:Mem w B rb M lab P) {g cap:Nat} {re:Thk.RE} {iv pv:Value} (he:qn w B rb M.vx M.vr M.vo M.sign M.may (M.xs.flatMap exC) (exC (re,iv,pv)) M.xs.length w' g cap)
  (hi:Items w B iv re.items) (hp:Ints w B pv re.parts) (hl:∀ b,pv.ownBlock=some b→P (lab b)) :
  Mem w' B rb { M with vx:=.slice (some ⟨g,0,none⟩) (M.xs.length+1) cap,xs:=M.xs++[(re,iv,pv)] } lab P∧KT B w w':=by
 have hk:∀ {e:TypeId} {sz:Nat} {u:Value} {n:Nat} {cs:List Value},w.ownsRow B e sz u n cs→e≠149→e≠204→w'.ownsRow B e sz u n cs:=by
  intro e sz u n cs hu h1 h2
  refine Z6 hu (fun b hb=>he.same b (hu.lt b hb).2 ?_ ?_)
  ·intro e1;subst e1;exact zn hu h.blk h2 hb
  ·intro e1;exact Ki hu h.ex h1 e1.symm hb
 have hB:=h.ge
 have hr:=h.lt
 refine⟨⟨h.ge,he.blk,by simpa using he.own,hk h.ru (by decide) (by decide),hk h.op (by decide) (by decide),?_,?_,?_⟩,⟨he.os,he.tape,he.output,he.size,?_,?_⟩⟩
 ·intro p hpm
  rcases List.mem_append.1 hpm with hpm | hpm
  ·exact hk (h.items p hpm) (by decide) (by decide)
  ·simp at hpm;subst hpm;exact hk hi (by decide) (by decide)
 ·intro p hpm
  rcases List.mem_append.1 hpm with hpm | hpm
  ·obtain⟨h1,h2⟩:=h.parts p hpm
   exact⟨hk h1 (by decide) (by decide),h2⟩
  ·simp at hpm;subst hpm;exact⟨hk hp (by decide) (by decide),hl⟩
 ·intro k hk'
  obtain⟨h1,h2,h3,h4⟩:=h.opens k hk'
  exact⟨hk h1 (by decide) (by decide),h2,hk h3 (by decide) (by decide),h4⟩
 ·intro k hk'
  refine he.same k (by omega) (by omega) (fun e=>?_)
  have:=(h.ex.lt k e.symm).1
  omega
 ·intro k cs t fr hk' ht
  refine he.same k (za hk') ?_ ?_
  ·intro e;subst e;rw[h.blk] at hk';simp at hk';rw[← hk'.2.1] at ht;exact ht (by decide)
  ·intro e
   obtain⟨cs',hc⟩:=Qw h.ex e.symm
   rw[hk'] at hc;simp at hc;rw[hc.2.1] at ht;exact ht (by decide)
theorem Mem.setSign {w:World} {B rb:Nat} {M:MV} {lab:Nat→Nat} {P:Nat→Prop} (h:Mem w B rb M lab P) (s:Thk.z7):Mem (w.setCell ⟨rb,3,none⟩ (.string ⟨s.toArray⟩)) B rb { M with sign:=s } lab P∧KT B w (w.setCell ⟨rb,3,none⟩ (.string ⟨s.toArray⟩)):=by
 have c:=Chg.set rb 3 (.string ⟨s.toArray⟩) w
 refine⟨⟨h.ge,by rw[Jo h.blk];rfl,zq c h.ex (zn h.ex h.blk (by decide)),zq c h.ru (zn h.ru h.blk (by decide)),zq c h.op (zn h.op h.blk (by decide)),fun p hp=>zq c (h.items p hp) (zn (h.items p hp) h.blk (by decide)),fun p hp=>⟨zq c (h.parts p hp).1 (zn (h.parts p hp).1 h.blk (by decide)),(h.parts p hp).2⟩,?_⟩,KT.chg c (by have:=h.lt;have:=h.ge;omega) h.ge (fun cs t fr hb=>by rw[h.blk] at hb;simp at hb;rw[← hb.2.1];decide)⟩
 intro k hk
 obtain⟨h1,h2,h3,h4⟩:=h.opens k hk
 exact⟨zq c h1 (zn h1 h.blk (by decide)),h2,zq c h3 (zn h3 h.blk (by decide)),h4⟩
theorem Mem.setMay {w:World} {B rb:Nat} {M:MV} {lab:Nat→Nat} {P:Nat→Prop} (h:Mem w B rb M lab P) (s:Bool):Mem (w.setCell ⟨rb,4,none⟩ (.bool s)) B rb { M with may:=s } lab P∧KT B w (w.setCell ⟨rb,4,none⟩ (.bool s)):=by
 have c:=Chg.set rb 4 (.bool s) w
 refine⟨⟨h.ge,by rw[Jo h.blk];rfl,zq c h.ex (zn h.ex h.blk (by decide)),zq c h.ru (zn h.ru h.blk (by decide)),zq c h.op (zn h.op h.blk (by decide)),fun p hp=>zq c (h.items p hp) (zn (h.items p hp) h.blk (by decide)),fun p hp=>⟨zq c (h.parts p hp).1 (zn (h.parts p hp).1 h.blk (by decide)),(h.parts p hp).2⟩,?_⟩,KT.chg c (by have:=h.lt;have:=h.ge;omega) h.ge (fun cs t fr hb=>by rw[h.blk] at hb;simp at hb;rw[← hb.2.1];decide)⟩
 intro k hk
 obtain⟨h1,h2,h3,h4⟩:=h.opens k hk
 exact⟨zq c h1 (zn h1 h.blk (by decide)),h2,zq c h3 (zn h3 h.blk (by decide)),h4⟩
theorem VK (ps:List (Thk.OP × Value × Value)):(ps.flatMap opC).length=ps.length * 3:=by
 induction ps with
 | nil=>rfl
 | cons x xs ih=>simp[opC,ih] at *;omega
theorem UX (ps:List (Thk.z7 × Nat)):(ps.flatMap ruC).length=ps.length * 2:=by
 induction ps with
 | nil=>rfl
 | cons x xs ih=>simp[ruC,ih] at *;omega
theorem Mem.topAt {w:World} {B rb:Nat} {M:MV} {lab:Nat→Nat} {P:Nat→Prop} (h:Mem w B rb M lab P) {mr:List (Thk.OP × Value × Value)} {m:Thk.OP × Value × Value} (ho:M.os=mr++[m]) :
  ∃ og oc,M.vo = .slice (some ⟨og,0,none⟩) (mr.length+1) oc∧B≤og∧og<w.heap.size∧og≠rb∧w.cell? ⟨og,mr.length * 3,none⟩=some m.2.1∧w.cell? ⟨og,mr.length * 3+1,none⟩=some m.2.2∧w.cell? ⟨og,mr.length * 3+2,none⟩=some (.string ⟨m.1.sign.toArray⟩)∧∀ o,w.frozen? ⟨og,o,none⟩=false:=by
 have hop:=h.op
 have hl:M.os.length=mr.length+1:=by rw[ho];simp
 rw[hl] at hop
 obtain⟨og,oc,hv,hb,hlt⟩:=hop.form (by omega)
 rw[hv] at hop
 have hg:∀ j,j<3→w.cell? ⟨og,mr.length * 3+j,none⟩=(opC m)[j]? := by
  intro j hj
  rw[hop.cellAt _ (by omega),ho,List.flatMap_append,List.getElem?_append_right (by rw[VK];omega),VK,show mr.length * 3+j - mr.length * 3=j from by omega]
  simp
 refine⟨og,oc,hv,hb,hlt,?_,hg 0 (by decide),hg 1 (by decide),hg 2 (by decide),fun o=>hop.frozenAt o⟩
 intro e;subst e
 have:=zn hop h.blk (by decide)
 simp[Value.ownBlock] at this
theorem zag (mr:List (Thk.OP × Value × Value)) (m:Thk.OP × Value × Value) (j:Nat) (hj:j<3) (u:Value):((mr++[m]).flatMap opC).set (mr.length * 3+j) u=mr.flatMap opC++(opC m).set j u:=by
 rw[List.flatMap_append,List.set_append_right _ _ (by rw[VK];omega),VK,show mr.length * 3+j - mr.length * 3=j from by omega]
 simp
theorem Mem.setTop {w:World} {B rb:Nat} {M:MV} {lab:Nat→Nat} {P:Nat→Prop} (h:Mem w B rb M lab P) {mr:List (Thk.OP × Value × Value)} {m m':Thk.OP × Value × Value} (ho:M.os=mr++[m]) {og oc:Nat} (hv:M.vo = .slice (some ⟨og,0,none⟩) (mr.length+1) oc)
  (j:Nat) (hj:j<3) (u:Value) (hm:(opC m).set j u=opC m') (lab':Nat→Nat) (P':Nat→Prop)
  (hparts:∀ p ∈ M.xs,∀ g,p.2.2.ownBlock=some g→g<w.heap.size→P' (lab' g)) (hlab:∀ k (hk:k<mr.length),Lab lab' mr[k].2.1 (2 * k+1)∧Lab lab' mr[k].2.2 (2 * k+2))
  (hs:Ints w B m'.2.1 m'.1.seqs∧Lab lab' m'.2.1 (2 * mr.length+1)) (ht:Ints w B m'.2.2 m'.1.terms∧Lab lab' m'.2.2 (2 * mr.length+2)) :
  Mem (w.setCell ⟨og,mr.length * 3+j,none⟩ u) B rb { M with os:=mr++[m'] } lab' P'∧KT B w (w.setCell ⟨og,mr.length * 3+j,none⟩ u):=by
 have c:=Chg.set og (mr.length * 3+j) u w
 have hop:=h.op
 have hl:M.os.length=mr.length+1:=by rw[ho];simp
 rw[hl,hv] at hop
 obtain⟨cs,hob⟩:=Qw hop (b:=og) rfl
 have hnr:rb≠og:=by
  intro e;subst e
  have:=zn hop h.blk (by decide)
  simp[Value.ownBlock] at this
 have hst:=(hop.stored (mr.length * 3+j) u).1
 refine⟨⟨h.ge,by rw[c.same rb h.lt hnr];exact h.blk,zq c h.ex (zn h.ex hob (by decide)),zq c h.ru (zn h.ru hob (by decide)),?_,fun p hp=>zq c (h.items p hp) (zn (h.items p hp) hob (by decide)),fun p hp=>⟨zq c (h.parts p hp).1 (zn (h.parts p hp).1 hob (by decide)),fun g hg=>hparts p hp g hg ((h.parts p hp).1.lt g hg).2⟩,?_⟩,KT.chg c (by have:=h.lt;have:=h.ge;omega) (hop.lt og rfl).1 (fun cs' t fr hb=>by rw[hob] at hb;simp at hb;rw[← hb.2.1];decide)⟩
 ·simp only[hv,List.length_append,List.length_singleton]
  rw[ho,zag mr m j hj u,hm] at hst
  simpa using hst
 ·intro k hk
  simp only[] at hk ⊢
  by_cases hkm:k<mr.length
  ·rw[List.getElem_append_left hkm]
   obtain⟨h1,_,h3,_⟩:=h.opens k (by rw[hl];omega)
   simp only[ho,List.getElem_append_left hkm] at h1 h3
   exact⟨zq c h1 (zn h1 hob (by decide)),(hlab k hkm).1,zq c h3 (zn h3 hob (by decide)),(hlab k hkm).2⟩
  ·have hke:k=mr.length:=by simp at hk;omega
   subst hke
   rw[List.getElem_append_right (Nat.le_refl _)]
   simp only[Nat.sub_self,List.getElem_cons_zero]
   exact⟨zq c hs.1 (zn hs.1 hob (by decide)),hs.2,zq c ht.1 (zn ht.1 hob (by decide)),ht.2⟩
end Go.Proofs.YtiganlkabilblaaGreatDoor
namespace Go.Proofs.YtiganlkabilblaaGreatDoor
open Go.RowKit
attribute [local go_sem ↓] Go.wp_at_zero Go.wp_at_succ
theorem Tryz.infoInt:(Tryz.prog.info? 3).map (fun i=>(i.zero,i.size,i.bytes))=some (some (.int .i64 0),1,8):=by kernel_rfl
def YW (b:Thk.z7):Prop:=b=[63]∨b=[42]∨b=[43]∨b=[38]∨b=[33]
theorem zan (b:Thk.z7) (hb:YW b) (w:World) :
  Calls Tryz.prog 143 #[.string ⟨b.toArray⟩] w fun e w'=>e = .returned (.int .i64 (Thk.zE b))∧w'=w:=by
 rcases hb with rfl | rfl | rfl | rfl | rfl
 all_goals
  go_enter Tryz.func143,Tryz.ntmps143
  go_wp2_with fail
  go_ret
  exact⟨rfl,rfl⟩
theorem Mem.grown {w w1:World} {B rb:Nat} {M:MV} {lab:Nat→Nat} {P:Nat→Prop} (h:Mem w B rb M lab P) {base:Nat} {v:Value} {n:Nat} {cs:List Value} (hv:w.ownsRow base 3 1 v n cs) (hg:w.grownBy w1 v.ownBlock) (l:Nat) (hl:Lab lab v l) (hP:¬ P l) :
  w1.heap[rb]? = some (rdO M.vx M.vr M.vo M.sign M.may)∧w1.ownsRow B 149 5 M.vx M.xs.length (M.xs.flatMap exC)∧w1.ownsRow B 90 2 M.vr M.rs.length (M.rs.flatMap ruC)∧w1.ownsRow B 209 3 M.vo M.os.length (M.os.flatMap opC) ∧
  (∀ p ∈ M.xs,Items w1 B p.2.1 p.1.items)∧(∀ p ∈ M.xs,Ints w1 B p.2.2 p.1.parts)∧(∀ k (h:k<M.os.length),(2 * k+1≠l→Ints w1 B M.os[k].2.1 M.os[k].1.seqs)∧(2 * k+2≠l→Ints w1 B M.os[k].2.2 M.os[k].1.terms)) ∧
  (∀ (k:Nat) (cs:Array Value) (t:TypeId) (fr:Nat × Nat),w.heap[k]? = some (Obj.cells cs t fr)→t ∉ zal→w1.heap[k]? = w.heap[k]?):=by
 have hty:∀ {e:TypeId} {sz:Nat} {u:Value} {n':Nat} {cs':List Value},w.ownsRow B e sz u n' cs'→e≠3→w1.ownsRow B e sz u n' cs':=by
  intro e sz u n' cs' hu he
  exact Z6 hu (fun b hb=>hg.block b (hu.lt b hb).2 (fun e1=>Ki hu hv he e1.symm hb))
 have hi:∀ {u:Value} {ns:List Nat} {l':Nat},Ints w B u ns→Lab lab u l'→l'≠l→Ints w1 B u ns:=by
  intro u ns l' hu hlu hne
  exact Z6 hu (fun b hb=>hg.block b (hu.lt b hb).2 (fun e1=>hne (by rw[← hlu b hb,← hl b e1.symm])))
 refine⟨?_,hty h.ex (by decide),hty h.ru (by decide),hty h.op (by decide),fun p hp=>hty (h.items p hp) (by decide),?_,?_,?_⟩
 ·rw[hg.block rb h.lt (fun e=>zn hv h.blk (by decide) e.symm)];exact h.blk
 ·intro p hp
  obtain⟨h1,h2⟩:=h.parts p hp
  exact Z6 h1 (fun b hb=>hg.block b (h1.lt b hb).2 (fun e1=>hP (by rw[← hl b e1.symm];exact h2 b hb)))
 ·intro k hk
  obtain⟨h1,h2,h3,h4⟩:=h.opens k hk
  exact⟨fun hne=>hi h1 h2 hne,fun hne=>hi h3 h4 hne⟩
 ·intro k cs' t fr hk ht
  refine hg.block k (za hk) (fun e=>?_)
  obtain⟨cs2,hc⟩:=Qw hv e.symm
  rw[hk] at hc;simp at hc;rw[hc.2.1] at ht;exact ht (by decide)
def upd (lab:Nat→Nat) (g l:Nat):Nat→Nat:=fun b=>if b=g then l else lab b
theorem Mem.pushTerm {w w1:World} {B rb:Nat} {M:MV} {lab:Nat→Nat} {P:Nat→Prop} (h:Mem w B rb M lab P) {mr:List (Thk.OP × Value × Value)} {m:Thk.OP × Value × Value} (ho:M.os=mr++[m]) {og oc:Nat} (hv:M.vo = .slice (some ⟨og,0,none⟩) (mr.length+1) oc)
  (hP:¬ P (2 * mr.length+2)) {e g cap:Nat} (hown:w1.ownsRow B 3 1 (.slice (some ⟨g,0,none⟩) (m.1.terms.length+1) cap) (m.1.terms.length+1) (m.1.terms.map Zq++[Zq e])) (hg:w.grownBy w1 m.2.2.ownBlock) (hat:m.2.2.ownBlock=some g∨g=w.heap.size) :
  Mem (w1.setCell ⟨og,mr.length * 3+1,none⟩ (.slice (some ⟨g,0,none⟩) (m.1.terms.length+1) cap)) B rb { M with os:=mr++[({ m.1 with terms:=m.1.terms++[e] },m.2.1,.slice (some ⟨g,0,none⟩) (m.1.terms.length+1) cap)] } (upd lab g (2 * mr.length+2)) P ∧
   KT B w (w1.setCell ⟨og,mr.length * 3+1,none⟩ (.slice (some ⟨g,0,none⟩) (m.1.terms.length+1) cap)):=by
 have hl:mr.length<M.os.length:=by rw[ho];simp
 obtain⟨h1,h2,h3,h4⟩:=h.opens mr.length hl
 have hm : M.os[mr.length]'hl = m := by simp only [ho]; rw [List.getElem_append_right (Nat.le_refl _)]; simp
 rw[hm] at h1 h2 h3 h4
 have hup:∀ b l,b<w.heap.size→lab b=l→(b=g→l=2 * mr.length+2)→upd lab g (2 * mr.length+2) b=l:=by
  intro b l hb hlb hbg
  unfold upd
  by_cases hx:b=g
  ·rw[if_pos hx,hbg hx]
  ·rw[if_neg hx];exact hlb
 have hgl:∀ b,b<w.heap.size→b=g→lab b=2 * mr.length+2:=by
  intro b hb e1
  rcases hat with hat | hat
  ·rw[e1];exact h4 g hat
  ·omega
 have hu:∀ b,b<w.heap.size→upd lab g (2 * mr.length+2) b=lab b:=fun b hb=>hup b _ hb rfl (hgl b hb)
 obtain⟨g1,g2,g3,g4,g5,g6,g7,g8⟩:=h.grown h3 hg _ h4 hP
 -- the world behind the append
 have c:=Chg.set og (mr.length * 3+1) (.slice (some ⟨g,0,none⟩) (m.1.terms.length+1) cap) w1
 have hle:M.os.length=mr.length+1:=by rw[ho];simp
 rw[hle,hv] at g4
 obtain⟨cs,hob⟩:=Qw g4 (b:=og) rfl
 have hnr:rb≠og:=by
  intro e1;subst e1
  have:=zn g4 g1 (by decide)
  simp[Value.ownBlock] at this
 have hst:=(g4.stored (mr.length * 3+1) (.slice (some ⟨g,0,none⟩) (m.1.terms.length+1) cap)).1
 have hw1:=hg.size
 refine⟨⟨h.ge,by rw[c.same rb (by have:=h.lt;omega) hnr];exact g1,zq c g2 (zn g2 hob (by decide)),zq c g3 (zn g3 hob (by decide)),?_,fun p hp=>zq c (g5 p hp) (zn (g5 p hp) hob (by decide)),fun p hp=>⟨zq c (g6 p hp) (zn (g6 p hp) hob (by decide)),fun b hb=>by rw[hu b ((h.parts p hp).1.lt b hb).2];exact (h.parts p hp).2 b hb⟩,?_⟩,?_⟩
 ·simp only[hv,List.length_append,List.length_singleton]
  rw[ho,zag mr m 1 (by decide)] at hst
  simpa [opC] using hst
 ·intro k hk
  simp only[] at hk ⊢
  by_cases hkm:k<mr.length
  ·rw[List.getElem_append_left hkm]
   obtain⟨i1,i2,i3,i4⟩:=h.opens k (by omega)
   obtain⟨j1,j2⟩:=g7 k (by omega)
   simp only[ho,List.getElem_append_left hkm] at i1 i2 i3 i4 j1 j2
   exact⟨zq c (j1 (by omega)) (zn (j1 (by omega)) hob (by decide)),fun b hb=>by rw[hu b (i1.lt b hb).2];exact i2 b hb,zq c (j2 (by omega)) (zn (j2 (by omega)) hob (by decide)),fun b hb=>by rw[hu b (i3.lt b hb).2];exact i4 b hb⟩
  ·have hke:k=mr.length:=by simp at hk;omega
   subst hke
   rw[List.getElem_append_right (Nat.le_refl _)]
   simp only[Nat.sub_self,List.getElem_cons_zero]
   obtain⟨j1,j2⟩:=g7 mr.length (by omega)
   rw[hm] at j1
   have hnew:Ints w1 B (.slice (some ⟨g,0,none⟩) (m.1.terms.length+1) cap) (m.1.terms++[e]):=by unfold Ints;simpa using hown
   exact⟨zq c (j1 (by omega)) (zn (j1 (by omega)) hob (by decide)),fun b hb=>by rw[hu b (h1.lt b hb).2];exact h2 b hb,zq c hnew (zn hnew hob (by decide)),fun b hb=>by simp[Value.ownBlock] at hb;subst hb;simp[upd]⟩
 ·refine KT.trans ⟨hg.os,hg.tape,hg.output,hg.size,?_,g8⟩ (KT.chg c (by have:=h.lt;have:=h.ge;omega) (g4.lt og rfl).1 (fun cs' t fr hb=>by rw[hob] at hb;simp at hb;rw[← hb.2.1];decide))
  intro k hk
  refine hg.block k (by have:=h.lt;have:=h.ge;omega) (fun e1=>?_)
  have:=(h3.lt k e1.symm).1
  omega
def QS (w:World) (B rb:Nat) (S':Thk.ST) (v:Value) (e:Ending) (w':World):Prop:=
 e = .returned v∧∃ M' lab',Mem w' B rb M' lab' (· = 0)∧KT B w w'∧M'.st=S'
theorem zij (w:World) (B rb:Nat) (M:MV) (lab:Nat→Nat) (h:Mem w B rb M lab (· = 0)) (mr:List (Thk.OP × Value × Value)) (m:Thk.OP × Value × Value) (ho:M.os=mr++[m]) (e:Nat) (hb1:m.1.terms.length≤100000) (hb2:mr.length≤100000) :
  Calls Tryz.prog 101 #[.pointer (some ⟨rb,0,none⟩),.int .i64 e,.string ⟨#[]⟩] w fun e' w'=>QS w B rb (M.st.push e) (.tuple #[]) e' w':=by
 obtain⟨i0,hi,hz0,hz1,hz2⟩:=info_parts Tryz.infoInt
 obtain⟨og,oc,hv,hgB,hol,hor,q0,q1,q2,qf⟩:=h.topAt ho
 have hq:=z8 h.blk
 have hf:=zi h.blk
 have c2:=hq 2
 simp only[hv] at c2
 have hrl:=h.lt
 have hge:=h.ge
 have hlen:mr.length<M.os.length:=by rw[ho];simp
 obtain⟨h1,h2,h3,h4⟩:=h.opens mr.length hlen
 have hm : M.os[mr.length]'hlen = m := by simp only [ho]; rw [List.getElem_append_right (Nat.le_refl _)]; simp
 rw[hm] at h3 h4
 obtain⟨ta,tc,hvt⟩:=zl h3
 rw[hvt] at q1
 have hown:w.ownsRow B 3 1 (.slice ta m.1.terms.length tc) m.1.terms.length (m.1.terms.map Zq):=by rw[← hvt];exact h3
 have H:Hid (Mem w B rb M lab (· = 0)):=h
 have HO:Hid (M.os=mr++[m]):=ho
 have HV:Hid (M.vo = .slice (some ⟨og,0,none⟩) (mr.length+1) oc):=hv
 have HT:Hid (m.2.2 = .slice ta m.1.terms.length tc):=hvt
 have HML:Hid (m.1.terms.length+1≤maxLen):=by show _≤_;unfold maxLen;omega
 have hL:(mr.length:Int)<(mr.length:Int)+1:=by omega
 have f4:=hf 4
 have c4:w.cell? ⟨rb,4,none⟩=some (.bool M.may):=hq 4
 clear h ho hv hvt h1 h2 h3 h4 hm hq hf
 go_enter Tryz.func101,Tryz.ntmps101
 go_wp2_with fail
 go_quiet (fail)
 go_wp2_with (first | (at_builtin;refine wpList_append_lies _ rfl _ _ 40 rfl B 3 i0 _ 1 8 Tryz.underlying40 hi hz0 hz1 hz2 rfl (by decide) _ _ _ rfl (hown.alloc _) ⟨w.heap.size,0,none⟩ 1 1 [Zq e] rfl rfl ?c1 ?c2 (by decide) HML.out ?c4 ?c5 (w.heap.size+1) (by simp) ?_))
 case c1=>exact cell_one_new _ _ _
 case c2=>intro u hu;simp at hu;subst hu;rfl
 case c4=>omega
 case c5=>simp;omega
 intro g cap w1 hown' hgrow hat hgl
 have hMW:=H.out.below (lab':=lab) (w':=(w.drewN nq).alloc (.cells #[.int .i64 e] 3)) ((below_drewN (Below.refl _ _) nq).alloc (by simp) _) (fun _ _=>rfl)
 have hPT:=hMW.pushTerm HO.out HV.out (by simp) hown' (by rw[HT.out];exact hgrow) (by rw[HT.out];simpa using hat)
 have hrow:∀ k,k<w.heap.size→(∀ cs,w.heap[k]?≠some (Obj.cells cs 3 (0,0)))→w1.heap[k]? = w.heap[k]? := by
  intro k hk hty
  rw[hgrow.block k (by simp;omega) ?_]
  ·exact zm _ _ (by simpa using hk)
  ·intro e1
   obtain⟨cs,hcs⟩:=Qw hown e1.symm
   exact hty cs hcs
 have hrbk:w1.heap[rb]? = w.heap[rb]? := hrow rb hrl (fun cs hcs=>by rw[H.out.blk] at hcs;simp at hcs)
 have hogk:w1.heap[og]? = w.heap[og]? := by
  have hop:=H.out.op
  rw[HV.out] at hop
  obtain⟨cs',hcs'⟩:=Qw hop (b:=og) rfl
  exact hrow og hol (fun cs hcs=>by rw[hcs'] at hcs;simp at hcs)
 have d1:w1.cell? ⟨og,mr.length * 3+1,none⟩=some (.slice ta m.1.terms.length tc):=(World.cell?_of_block hogk).trans q1
 have d2:w1.frozen? ⟨og,mr.length * 3+1,none⟩=false:=(World.frozen?_of_block hogk).trans (qf _)
 have d3:w1.cell? ⟨rb,4,none⟩=some (.bool M.may):=(World.cell?_of_block hrbk).trans c4
 have d4:w1.frozen? ⟨rb,4,none⟩=false:=(World.frozen?_of_block hrbk).trans f4
 have HE:=(show Hid _ from hPT)
 clear hMW hPT hrow hrbk hogk hown hown' hgrow hat
 go_wp2_with fail
 obtain⟨hM1,hK1⟩:=HE.out
 obtain⟨hM2,hK2⟩:=hM1.setMay true
 go_end0
 refine⟨rfl,_,_,hM2,?_,?_⟩
 ·exact (((KT.refl B w).drewN nq).trans (KT.alloc B _ (by simp;omega) _)).trans (hK1.trans hK2)
 ·simp[MV.st,Thk.ST.push,Thk.ST.setTop,Thk.ST.top,HO.out,List.getLastD_concat]
theorem zik (w:World) (B rb:Nat) (M:MV) (lab:Nat→Nat) (h:Mem w B rb M lab (· = 0)) (mr:List (Thk.OP × Value × Value)) (m:Thk.OP × Value × Value) (ho:M.os=mr++[m]) (e:Nat) (sg:Thk.z7) (hsg:YW sg) (hb0:M.xs.length≤100000) (hb1:m.1.terms.length≤100000) (hb2:mr.length≤100000) :
  Calls Tryz.prog 101 #[.pointer (some ⟨rb,0,none⟩),.int .i64 e,.string ⟨sg.toArray⟩] w fun e' w'=>QS w B rb ((M.st.add (Thk.zy (Thk.zE sg) e)).push M.xs.length) (.tuple #[]) e' w':=by
 obtain⟨i0,hi,hz0,hz1,hz2⟩:=info_parts Tryz.infoInt
 have hko:=fun w=>zan sg hsg w
 have hne:List.isEmpty sg=false:=by rcases hsg with rfl | rfl | rfl | rfl | rfl<;>rfl
 have hadd:=fun (w':World) (lab':Nat→Nat) (hM:Mem w' B rb M lab' (· = 0)) (xa:Option Addr) (xc:Nat) (hx:M.vx = .slice xa M.xs.length xc) (pa:Option Addr) (pl pc:Nat)=>
  YG w' B rb xa xc M.xs.length M.vr M.vo M.sign M.may (M.xs.flatMap exC) (Thk.zE sg) none 0 0 ⟨#[]⟩ 0 pa pl pc (by rw[← hx];exact hM.blk) (by rw[← hx];exact hM.ex) hb0 hM.ge
 obtain⟨xa,xc,hx⟩:=zl h.ex
 have hB0:B≤w.heap.size:=by have:=h.lt;have:=h.ge;omega
 have hM1:=h.below (w':=w.alloc (.cells #[.int .i64 e] 3)) (lab':=upd lab w.heap.size 0) (zc _ _) (fun g hg=>by unfold upd;rw[if_neg (by omega)])
 have had:=hadd _ _ hM1 xa xc hx (some ⟨w.heap.size,0,none⟩) 1 1
 have HM1:=(show Hid _ from hM1)
 have HX:=(show Hid _ from hx)
 have HO0:=(show Hid _ from ho)
 clear hadd hM1 hx h
 go_enter Tryz.func101,Tryz.ntmps101
 go_wp2_with fail
 refine (hko _).mono ?_
 rintro e1 w' ⟨rfl,hw⟩
 replace hw:=hw.symm
 subst hw
 clear hko
 go_wp2_with fail
 refine had.mono ?_
 rintro e1 w2 ⟨xg,xcap,rfl,hAE⟩
 have hint:Ints (w.alloc (.cells #[.int .i64 e] 3)) B (.slice (some ⟨w.heap.size,0,none⟩) 1 1) [e]:=World.ownsRow_lit w #[.int .i64 e] 1 hB0 (by decide) rfl
 have h2:=HM1.out.add (re:=Thk.zy (Thk.zE sg) e) (iv:=.slice none 0 0) (pv:=.slice (some ⟨w.heap.size,0,none⟩) 1 1) (by rw[HX.out];exact hAE) (World.ownsRow_nil _ _ _ _) hint (fun b hb=>by simp[Value.ownBlock] at hb;subst hb;simp[upd])
 obtain⟨h,hKA⟩:=h2
 have HKA:Hid (KT B w w2):=(KT.alloc B w hB0 _).trans hKA
 have ho:M.os=mr++[m]:=HO0.out
 obtain⟨M2,hM2⟩:∃ M2,M2=({ M with vx:=.slice (some ⟨xg,0,none⟩) (M.xs.length+1) xcap,xs:=M.xs++[(Thk.zy (Thk.zE sg) e,.slice none 0 0,.slice (some ⟨w.heap.size,0,none⟩) 1 1)] }:MV):=⟨_,rfl⟩
 rw[← hM2] at h
 have ho2:M2.os=mr++[m]:=by rw[hM2];exact ho
 have HST:Hid (M2.st=M.st.add (Thk.zy (Thk.zE sg) e)):=by rw[hM2];show _=_;simp[MV.st,Thk.ST.add]
 have HXL:Hid (M2.xs.length=M.xs.length+1):=by rw[hM2];show _=_;simp
 have HO0:=ho2
 clear hAE hKA hint had hM2 ho HM1 HX
 obtain⟨lab2,hlab2⟩:∃ l,l=upd lab w.heap.size 0:=⟨_,rfl⟩
 rw[← hlab2] at h
 clear hlab2
 have ho:=ho2
 clear ho2 HO0
 obtain⟨og,oc,hv,hgB,hol,hor,q0,q1,q2,qf⟩:=h.topAt ho
 have hq:=z8 h.blk
 have hf:=zi h.blk
 have c2:=hq 2
 simp only[hv] at c2
 have hrl:=h.lt
 have hge:=h.ge
 have hlen:mr.length<M2.os.length:=by rw[ho];simp
 obtain⟨h1,h2,h3,h4⟩:=h.opens mr.length hlen
 have hm : M2.os[mr.length]'hlen = m := by simp only [ho]; rw [List.getElem_append_right (Nat.le_refl _)]; simp
 rw[hm] at h3 h4
 obtain⟨ta,tc,hvt⟩:=zl h3
 rw[hvt] at q1
 have hown:w2.ownsRow B 3 1 (.slice ta m.1.terms.length tc) m.1.terms.length (m.1.terms.map Zq):=by rw[← hvt];exact h3
 have H:Hid (Mem w2 B rb M2 lab2 (· = 0)):=h
 have HO:Hid (M2.os=mr++[m]):=ho
 have HV:Hid (M2.vo = .slice (some ⟨og,0,none⟩) (mr.length+1) oc):=hv
 have HT:Hid (m.2.2 = .slice ta m.1.terms.length tc):=hvt
 have HML:Hid (m.1.terms.length+1≤maxLen):=by show _≤_;unfold maxLen;omega
 have hL:(mr.length:Int)<(mr.length:Int)+1:=by omega
 have f4:=hf 4
 have c4:w2.cell? ⟨rb,4,none⟩=some (.bool M2.may):=hq 4
 clear h ho hv hvt h1 h2 h3 h4 hm hq hf
 go_wp2_with fail
 go_quiet (fail)
 go_wp2_with (first | (at_builtin;refine wpList_append_lies _ rfl _ _ 40 rfl B 3 i0 _ 1 8 Tryz.underlying40 hi hz0 hz1 hz2 rfl (by decide) _ _ _ rfl (hown.alloc _) ⟨w2.heap.size,0,none⟩ 1 1 [Zq M.xs.length] rfl rfl ?c1 ?c2 (by decide) HML.out ?c4 ?c5 (w2.heap.size+1) (by simp) ?_))
 case c1=>exact cell_one_new _ _ _
 case c2=>intro u hu;simp at hu;subst hu;rfl
 case c4=>omega
 case c5=>simp;omega
 intro g cap w1 hown' hgrow hat hgl
 have hMW:=H.out.below (lab':=lab2) (w':=(w2.drewN nq).alloc (.cells #[.int .i64 M.xs.length] 3)) ((below_drewN (Below.refl _ _) nq).alloc (by simp) _) (fun _ _=>rfl)
 have hPT:=hMW.pushTerm HO.out HV.out (by simp) hown' (by rw[HT.out];exact hgrow) (by rw[HT.out];simpa using hat)
 have hrow:∀ k,k<w2.heap.size→(∀ cs,w2.heap[k]?≠some (Obj.cells cs 3 (0,0)))→w1.heap[k]? = w2.heap[k]? := by
  intro k hk hty
  rw[hgrow.block k (by simp;omega) ?_]
  ·exact zm _ _ (by simpa using hk)
  ·intro e1
   obtain⟨cs,hcs⟩:=Qw hown e1.symm
   exact hty cs hcs
 have hrbk:w1.heap[rb]? = w2.heap[rb]? := hrow rb hrl (fun cs hcs=>by rw[H.out.blk] at hcs;simp at hcs)
 have hogk:w1.heap[og]? = w2.heap[og]? := by
  have hop:=H.out.op
  rw[HV.out] at hop
  obtain⟨cs',hcs'⟩:=Qw hop (b:=og) rfl
  exact hrow og hol (fun cs hcs=>by rw[hcs'] at hcs;simp at hcs)
 have d1:w1.cell? ⟨og,mr.length * 3+1,none⟩=some (.slice ta m.1.terms.length tc):=(World.cell?_of_block hogk).trans q1
 have d2:w1.frozen? ⟨og,mr.length * 3+1,none⟩=false:=(World.frozen?_of_block hogk).trans (qf _)
 have d3:w1.cell? ⟨rb,4,none⟩=some (.bool M2.may):=(World.cell?_of_block hrbk).trans c4
 have d4:w1.frozen? ⟨rb,4,none⟩=false:=(World.frozen?_of_block hrbk).trans f4
 have HE:=(show Hid _ from hPT)
 clear hMW hPT hrow hrbk hogk hown hown' hgrow hat
 go_wp2_with fail
 obtain⟨hM1,hK1⟩:=HE.out
 obtain⟨hM2,hK2⟩:=hM1.setMay true
 go_end0
 refine⟨rfl,_,_,hM2,?_,?_⟩
 ·exact HKA.out.trans ((((KT.refl B w2).drewN nq).trans (KT.alloc B _ (by simp;omega) _)).trans (hK1.trans hK2))
 ·rw[← HST.out]
  simp[MV.st,Thk.ST.push,Thk.ST.setTop,Thk.ST.top,HO.out,List.getLastD_concat]
theorem Mem.weaken {w:World} {B rb:Nat} {M:MV} {lab:Nat→Nat} {P P':Nat→Prop} (h:Mem w B rb M lab P) (hp:∀ l,P l→P' l):Mem w B rb M lab P':=
 ⟨h.ge,h.blk,h.ex,h.ru,h.op,h.items,fun p hpm=>⟨(h.parts p hpm).1,fun g hg=>hp _ ((h.parts p hpm).2 g hg)⟩,h.opens⟩
theorem Mem.topCells {w:World} {B rb:Nat} {M:MV} {lab:Nat→Nat} {P:Nat→Prop} (h:Mem w B rb M lab P) {mr:List (Thk.OP × Value × Value)} {m:Thk.OP × Value × Value} (ho:M.os=mr++[m]) {og oc:Nat} (hv:M.vo = .slice (some ⟨og,0,none⟩) (mr.length+1) oc) :
  og<w.heap.size∧w.cell? ⟨og,mr.length * 3,none⟩=some m.2.1∧w.cell? ⟨og,mr.length * 3+1,none⟩=some m.2.2∧w.cell? ⟨og,mr.length * 3+2,none⟩=some (.string ⟨m.1.sign.toArray⟩)∧(∀ o,w.frozen? ⟨og,o,none⟩=false)∧(∃ cs,w.heap[og]? = some (.cells cs 209 (0,0))) ∧
   Ints w B m.2.1 m.1.seqs∧Lab lab m.2.1 (2 * mr.length+1)∧Ints w B m.2.2 m.1.terms∧Lab lab m.2.2 (2 * mr.length+2):=by
 obtain⟨og',oc',hv',_,hol,_,q0,q1,q2,qf⟩:=h.topAt ho
 rw[hv] at hv'
 simp at hv'
 obtain⟨rfl,rfl⟩:=hv'
 have hop:=h.op
 rw[hv] at hop
 have hlen:mr.length<M.os.length:=by rw[ho];simp
 have hm : M.os[mr.length]'hlen = m := by simp only [ho]; rw [List.getElem_append_right (Nat.le_refl _)]; simp
 have h4:=h.opens mr.length hlen
 rw[hm] at h4
 exact⟨hol,q0,q1,q2,qf,Qw hop rfl,h4⟩
theorem Mem.pushSeq {w w1:World} {B rb:Nat} {M:MV} {lab:Nat→Nat} {P:Nat→Prop} (h:Mem w B rb M lab P) {mr:List (Thk.OP × Value × Value)} {m:Thk.OP × Value × Value} (ho:M.os=mr++[m]) {og oc:Nat} (hv:M.vo = .slice (some ⟨og,0,none⟩) (mr.length+1) oc)
  (hP:¬ P (2 * mr.length+1)) {e g cap:Nat} (hown:w1.ownsRow B 3 1 (.slice (some ⟨g,0,none⟩) (m.1.seqs.length+1) cap) (m.1.seqs.length+1) (m.1.seqs.map Zq++[Zq e])) (hg:w.grownBy w1 m.2.1.ownBlock) (hat:m.2.1.ownBlock=some g∨g=w.heap.size) :
  Mem (w1.setCell ⟨og,mr.length * 3,none⟩ (.slice (some ⟨g,0,none⟩) (m.1.seqs.length+1) cap)) B rb { M with os:=mr++[({ m.1 with seqs:=m.1.seqs++[e] },.slice (some ⟨g,0,none⟩) (m.1.seqs.length+1) cap,m.2.2)] } (upd lab g (2 * mr.length+1)) P ∧
   KT B w (w1.setCell ⟨og,mr.length * 3,none⟩ (.slice (some ⟨g,0,none⟩) (m.1.seqs.length+1) cap)):=by
 have hl:mr.length<M.os.length:=by rw[ho];simp
 obtain⟨h1,h2,h3,h4⟩:=h.opens mr.length hl
 have hm : M.os[mr.length]'hl = m := by simp only [ho]; rw [List.getElem_append_right (Nat.le_refl _)]; simp
 rw[hm] at h1 h2 h3 h4
 have hup:∀ b l,b<w.heap.size→lab b=l→(b=g→l=2 * mr.length+1)→upd lab g (2 * mr.length+1) b=l:=by
  intro b l hb hlb hbg
  unfold upd
  by_cases hx:b=g
  ·rw[if_pos hx,hbg hx]
  ·rw[if_neg hx];exact hlb
 have hgl:∀ b,b<w.heap.size→b=g→lab b=2 * mr.length+1:=by
  intro b hb e1
  rcases hat with hat | hat
  ·rw[e1];exact h2 g hat
  ·omega
 have hu:∀ b,b<w.heap.size→upd lab g (2 * mr.length+1) b=lab b:=fun b hb=>hup b _ hb rfl (hgl b hb)
 obtain⟨g1,g2,g3,g4,g5,g6,g7,g8⟩:=h.grown h1 hg _ h2 hP
 -- the world behind the append
 have c:=Chg.set og (mr.length * 3) (.slice (some ⟨g,0,none⟩) (m.1.seqs.length+1) cap) w1
 have hle:M.os.length=mr.length+1:=by rw[ho];simp
 rw[hle,hv] at g4
 obtain⟨cs,hob⟩:=Qw g4 (b:=og) rfl
 have hnr:rb≠og:=by
  intro e1;subst e1
  have:=zn g4 g1 (by decide)
  simp[Value.ownBlock] at this
 have hst:=(g4.stored (mr.length * 3) (.slice (some ⟨g,0,none⟩) (m.1.seqs.length+1) cap)).1
 have hw1:=hg.size
 refine⟨⟨h.ge,by rw[c.same rb (by have:=h.lt;omega) hnr];exact g1,zq c g2 (zn g2 hob (by decide)),zq c g3 (zn g3 hob (by decide)),?_,fun p hp=>zq c (g5 p hp) (zn (g5 p hp) hob (by decide)),fun p hp=>⟨zq c (g6 p hp) (zn (g6 p hp) hob (by decide)),fun b hb=>by rw[hu b ((h.parts p hp).1.lt b hb).2];exact (h.parts p hp).2 b hb⟩,?_⟩,?_⟩
 ·simp only[hv,List.length_append,List.length_singleton]
  have hst:=hst;rw[ho,show mr.length * 3=mr.length * 3+0 from rfl,zag mr m 0 (by decide)] at hst
  simpa [opC] using hst
 ·intro k hk
  simp only[] at hk ⊢
  by_cases hkm:k<mr.length
  ·rw[List.getElem_append_left hkm]
   obtain⟨i1,i2,i3,i4⟩:=h.opens k (by omega)
   obtain⟨j1,j2⟩:=g7 k (by omega)
   simp only[ho,List.getElem_append_left hkm] at i1 i2 i3 i4 j1 j2
   exact⟨zq c (j1 (by omega)) (zn (j1 (by omega)) hob (by decide)),fun b hb=>by rw[hu b (i1.lt b hb).2];exact i2 b hb,zq c (j2 (by omega)) (zn (j2 (by omega)) hob (by decide)),fun b hb=>by rw[hu b (i3.lt b hb).2];exact i4 b hb⟩
  ·have hke:k=mr.length:=by simp at hk;omega
   subst hke
   rw[List.getElem_append_right (Nat.le_refl _)]
   simp only[Nat.sub_self,List.getElem_cons_zero]
   obtain⟨j1,j2⟩:=g7 mr.length (by omega)
   rw[hm] at j2
   have hnew:Ints w1 B (.slice (some ⟨g,0,none⟩) (m.1.seqs.length+1) cap) (m.1.seqs++[e]):=by unfold Ints;simpa using hown
   exact⟨zq c hnew (zn hnew hob (by decide)),fun b hb=>by simp[Value.ownBlock] at hb;subst hb;simp[upd],zq c (j2 (by omega)) (zn (j2 (by omega)) hob (by decide)),fun b hb=>by rw[hu b (h3.lt b hb).2];exact h4 b hb⟩
 ·refine KT.trans ⟨hg.os,hg.tape,hg.output,hg.size,?_,g8⟩ (KT.chg c (by have:=h.lt;have:=h.ge;omega) (g4.lt og rfl).1 (fun cs' t fr hb=>by rw[hob] at hb;simp at hb;rw[← hb.2.1];decide))
  intro k hk
  refine hg.block k (by have:=h.lt;have:=h.ge;omega) (fun e1=>?_)
  have:=(h1.lt k e1.symm).1
  omega
theorem Mem.nilTerms {w:World} {B rb:Nat} {M:MV} {lab:Nat→Nat} {mr:List (Thk.OP × Value × Value)} (h:Mem w B rb M lab (fun l=>l=0∨l=2 * mr.length+2)) {m:Thk.OP × Value × Value} (ho:M.os=mr++[m]) {og oc:Nat} (hv:M.vo = .slice (some ⟨og,0,none⟩) (mr.length+1) oc) :
  Mem (w.setCell ⟨og,mr.length * 3+1,none⟩ (.slice none 0 0)) B rb { M with os:=mr++[({ m.1 with terms:=[] },m.2.1,.slice none 0 0)] } (fun b=>if lab b=2 * mr.length+2 then 0 else lab b) (· = 0)∧KT B w (w.setCell ⟨og,mr.length * 3+1,none⟩ (.slice none 0 0)):=by
 have hlen:mr.length<M.os.length:=by rw[ho];simp
 have hm : M.os[mr.length]'hlen = m := by simp only [ho]; rw [List.getElem_append_right (Nat.le_refl _)]; simp
 obtain⟨h1,h2,h3,h4⟩:=h.opens mr.length hlen
 rw[hm] at h1 h2 h3 h4
 refine h.setTop ho hv 1 (by decide) (.slice none 0 0) (by simp[opC]) _ _ ?_ ?_ ?_ ?_
 ·intro p hp g hg _
  rcases (h.parts p hp).2 g hg with h0 | h0
  ·simp only[h0];split<;>rfl
  ·simp only[h0,if_true]
 ·intro k hk
  obtain⟨i1,i2,i3,i4⟩:=h.opens k (by omega)
  simp only[ho,List.getElem_append_left hk] at i1 i2 i3 i4
  refine⟨fun b hb=>?_,fun b hb=>?_⟩
  ·have e1:=i2 b hb;simp only[];rw[e1,if_neg (by omega)]
  ·have e1:=i4 b hb;simp only[];rw[e1,if_neg (by omega)]
 ·exact⟨h1,fun b hb=>by have e1:=h2 b hb;simp only[];rw[e1,if_neg (by omega)]⟩
 ·exact⟨World.ownsRow_nil _ _ _ _,fun b hb=>by simp[Value.ownBlock] at hb⟩
theorem Mem.drew {w:World} {B rb:Nat} {M:MV} {lab:Nat→Nat} {P:Nat→Prop} (h:Mem w B rb M lab P):Mem w.drew B rb M lab P:=h.below (Below.refl _ _).drew (fun _ _=>rfl)
theorem Mem.drewN {w:World} {B rb:Nat} {M:MV} {lab:Nat→Nat} {P:Nat→Prop} (h:Mem w B rb M lab P) (q:Nat):Mem (w.drewN q) B rb M lab P:=h.below (below_drewN (Below.refl _ _) q) (fun _ _=>rfl)
theorem zcs (w:World) (B rb:Nat) (M:MV) (lab:Nat→Nat) (h:Mem w B rb M lab (· = 0)) (mr:List (Thk.OP × Value × Value)) (m:Thk.OP × Value × Value) (ho:M.os=mr++[m]) (hb0:M.xs.length≤100000) (hb1:m.1.seqs.length≤100000) (hb2:mr.length≤100000) :
  Calls Tryz.prog 141 #[.pointer (some ⟨rb,0,none⟩)] w fun e' w'=>QS w B rb M.st.slash (.tuple #[]) e' w':=by
 obtain⟨i0,hi,hz0,hz1,hz2⟩:=info_parts Tryz.infoInt
 obtain⟨og,oc,hv,hgB,hol,hor,q0,q1,q2,qf⟩:=h.topAt ho
 have c2:w.cell? ⟨rb,2,none⟩=some M.vo:=z8 h.blk 2
 rw[hv] at c2
 obtain⟨h1,h2,h3,h4⟩:=(h.topCells ho hv).2.2.2.2.2.2
 obtain⟨ta,tc,hvt⟩:=zl h3
 rw[hvt] at q1
 obtain⟨xa,xc,hx⟩:=zl h.ex
 have had:=fun q=>YG (w.drewN q) B rb xa xc M.xs.length M.vr M.vo M.sign M.may (M.xs.flatMap exC) 5 none 0 0 ⟨#[]⟩ 0 ta m.1.terms.length tc (by rw[← hx];exact (h.drewN q).blk) (by rw[← hx];exact (h.drewN q).ex) hb0 h.ge
 have hrl:=h.lt
 have hge:=h.ge
 have hL:(mr.length:Int)<(mr.length:Int)+1:=by omega
 have H:Hid (Mem w B rb M lab (· = 0)):=h
 have HO:Hid (M.os=mr++[m]):=ho
 have HV:Hid (M.vo = .slice (some ⟨og,0,none⟩) (mr.length+1) oc):=hv
 have HT:Hid (m.2.2 = .slice ta m.1.terms.length tc):=hvt
 have HX:=(show Hid _ from hx)
 have HML:Hid (m.1.seqs.length+1≤maxLen):=by show _≤_;unfold maxLen;omega
 clear h ho hv hvt h1 h2 h3 h4 hx q0 q2
 go_enter Tryz.func141,Tryz.ntmps141
 go_wp2_with fail
 go_quiet (fail)
 go_wp2_with fail
 refine (had _).mono ?_
 rintro e1 w2 ⟨xg,xcap,rfl,hAE⟩
 have h2:=((H.out.drewN nq).weaken (P':=fun l=>l=0∨l=2 * mr.length+2) (fun l hl=>.inl hl)).add (re:=⟨5,[],[],0,m.1.terms⟩) (iv:=.slice none 0 0) (pv:=m.2.2) (by rw[HX.out,HT.out];exact hAE) (World.ownsRow_nil _ _ _ _) ((H.out.drewN nq).topCells HO.out HV.out).2.2.2.2.2.2.2.2.1 (fun b hb=>.inr (((H.out.drewN nq).topCells HO.out HV.out).2.2.2.2.2.2.2.2.2 b hb))
 obtain⟨hM2,hKA⟩:=h2
 have HKA:Hid (KT B w w2):=((KT.refl B w).drewN nq).trans hKA
 obtain⟨M2,hM2e⟩:∃ M2,M2=({ M with vx:=.slice (some ⟨xg,0,none⟩) (M.xs.length+1) xcap,xs:=M.xs++[(⟨5,[],[],0,m.1.terms⟩,.slice none 0 0,m.2.2)] }:MV):=⟨_,rfl⟩
 rw[← hM2e] at hM2
 have ho2:M2.os=mr++[m]:=by rw[hM2e];exact HO.out
 have hv2:M2.vo = .slice (some ⟨og,0,none⟩) (mr.length+1) oc:=by rw[hM2e];exact HV.out
 have HST:Hid (M2.st=M.st.add ⟨5,[],[],0,m.1.terms⟩):=by rw[hM2e];show _=_;simp[MV.st,Thk.ST.add]
 obtain⟨k0,k1,k2,k3,kf,⟨ocs,hoc⟩,k4,k5,k6,k7⟩:=hM2.topCells ho2 hv2
 obtain⟨sa,sc,hvs⟩:=zl k4
 rw[hvs] at k1
 have hown:w2.ownsRow B 3 1 (.slice sa m.1.seqs.length sc) m.1.seqs.length (m.1.seqs.map Zq):=by rw[← hvs];exact k4
 have HS:=(show Hid _ from hvs)
 have HM2:=(show Hid _ from hM2)
 have HO2:=(show Hid _ from ho2)
 have HV2:=(show Hid _ from hv2)
 have HOC:=(show Hid _ from hoc)
 have hB2:B≤w2.heap.size:=by have:=hM2.lt;omega
 clear had hAE hKA hM2 hM2e ho2 hv2 hvs k4 k5 k6 k7 k3 q1 hoc
 go_wp2_with (first | (at_builtin;refine wpList_append_lies _ rfl _ _ 40 rfl B 3 i0 _ 1 8 Tryz.underlying40 hi hz0 hz1 hz2 rfl (by decide) _ _ _ rfl (hown.alloc _) ⟨w2.heap.size,0,none⟩ 1 1 [Zq M.xs.length] rfl rfl ?c1 ?c2 (by decide) HML.out ?c4 ?c5 (w2.heap.size+1) (by simp) ?_))
 case c1=>exact cell_one_new _ _ _
 case c2=>intro u hu;simp at hu;subst hu;rfl
 case c4=>omega
 case c5=>simp;omega
 intro g cap w3 hown' hgrow hat hgl
 have hMW:=HM2.out.below (lab':=lab) (w':=w2.alloc (.cells #[.int .i64 M.xs.length] 3)) (zc _ _) (fun _ _=>rfl)
 have hPS:=hMW.pushSeq HO2.out HV2.out (by simp) hown' (by rw[HS.out];exact hgrow) (by rw[HS.out];simpa using hat)
 have hogk:w3.heap[og]? = w2.heap[og]? := by
  rw[hgrow.block og (by simp;omega) (fun e1=>zn hown HOC.out (by decide) e1.symm)]
  exact zm _ _ k0
 have d0:w3.cell? ⟨og,mr.length * 3,none⟩=some (.slice sa m.1.seqs.length sc):=(World.cell?_of_block hogk).trans k1
 have d1:w3.cell? ⟨og,mr.length * 3+1,none⟩=some m.2.2:=(World.cell?_of_block hogk).trans k2
 have df:∀ o,w3.frozen? ⟨og,o,none⟩=false:=fun o=>(World.frozen?_of_block hogk).trans (kf _)
 have HPS:=(show Hid _ from hPS)
 clear hMW hPS hogk hown hown' hgrow hat k1 k2 kf
 go_wp2_with fail
 obtain⟨hM3,hK3⟩:=HPS.out
 obtain⟨hM4,hK4⟩:=hM3.nilTerms (m:=({ m.1 with seqs:=m.1.seqs++[M.xs.length] },.slice (some ⟨g,0,none⟩) (m.1.seqs.length+1) cap,m.2.2)) rfl HV2.out
 go_end0
 refine⟨rfl,_,_,hM4,?_,?_⟩
 ·exact HKA.out.trans ((KT.alloc B w2 hB2 _).trans (hK3.trans hK4))
 ·have e1:M.st.top=m.1:=by simp[MV.st,Thk.ST.top,HO.out,List.getLastD_concat]
  have e2:M.st.xs.length=M.xs.length:=by simp[MV.st]
  unfold Thk.ST.slash
  rw[e1,e2,← HST.out]
  simp[MV.st,Thk.ST.setTop,HO2.out]
theorem zbZ {M:MV} {l:List Thk.OP} {o:Thk.OP} (h:M.st.os=l++[o]):∃ mr m,M.os=mr++[m]∧mr.map (·.1)=l∧m.1=o:=by
 have h':M.os.map (·.1)=l++[o]:=h
 rw[List.map_eq_append_iff] at h'
 obtain⟨l1,l2,h1,h2,h3⟩:=h'
 match l2,h3 with
 | [m],h3=>exact⟨l1,m,h1,h2,by simpa using h3⟩
theorem Mem.pop {w:World} {B rb:Nat} {M:MV} {lab:Nat→Nat} (h:Mem w B rb M lab (· = 0)) {mr:List (Thk.OP × Value × Value)} {m:Thk.OP × Value × Value} (ho:M.os=mr++[m]) {og oc:Nat} (hv:M.vo = .slice (some ⟨og,0,none⟩) (mr.length+1) oc) :
  Mem (w.setCell ⟨rb,2,none⟩ (.slice (some ⟨og,0,none⟩) mr.length oc)) B rb { M with vo:=.slice (some ⟨og,0,none⟩) mr.length oc,os:=mr } (fun b=>if lab b=2 * mr.length+1 then 0 else lab b) (· = 0)∧KT B w (w.setCell ⟨rb,2,none⟩ (.slice (some ⟨og,0,none⟩) mr.length oc)) ∧
   Ints (w.setCell ⟨rb,2,none⟩ (.slice (some ⟨og,0,none⟩) mr.length oc)) B m.2.1 m.1.seqs∧Lab (fun b=>if lab b=2 * mr.length+1 then 0 else lab b) m.2.1 0:=by
 have c:=Chg.set rb 2 (.slice (some ⟨og,0,none⟩) mr.length oc) w
 have hlen:mr.length<M.os.length:=by rw[ho];simp
 obtain⟨h1,h2,h3,h4⟩:=(h.topCells ho hv).2.2.2.2.2.2
 have hop:=h.op
 rw[hv,ho] at hop
 have hop':w.ownsRow B 209 3 (.slice (some ⟨og,0,none⟩) mr.length oc) mr.length (mr.flatMap opC):=by
  refine ownsRow_pop (last:=opC m) (by rw[VK]) ?_
  simpa using hop
 refine⟨⟨h.ge,by rw[Jo h.blk];rfl,zq c h.ex (zn h.ex h.blk (by decide)),zq c h.ru (zn h.ru h.blk (by decide)),zq c hop' (zn hop' h.blk (by decide)),fun p hp=>zq c (h.items p hp) (zn (h.items p hp) h.blk (by decide)),fun p hp=>⟨zq c (h.parts p hp).1 (zn (h.parts p hp).1 h.blk (by decide)),fun g hg=>?_⟩,?_⟩,KT.chg c (by have:=h.lt;have:=h.ge;omega) h.ge (fun cs t fr hb=>by rw[h.blk] at hb;simp at hb;rw[← hb.2.1];decide),zq c h1 (zn h1 h.blk (by decide)),fun g hg=>?_⟩
 ·have e1:lab g=0:=(h.parts p hp).2 g hg
  show (if lab g=_ then 0 else lab g)=0
  rw[e1];split<;>rfl
 ·intro k hk
  simp only[] at hk ⊢
  obtain⟨i1,i2,i3,i4⟩:=h.opens k (by omega)
  simp only[ho,List.getElem_append_left hk] at i1 i2 i3 i4
  refine⟨zq c i1 (zn i1 h.blk (by decide)),fun b hb=>?_,zq c i3 (zn i3 h.blk (by decide)),fun b hb=>?_⟩
  ·have e1:=i2 b hb;simp only[];rw[e1,if_neg (by omega)]
  ·have e1:=i4 b hb;simp only[];rw[e1,if_neg (by omega)]
 ·have e1:=h2 g hg;simp only[];rw[e1,if_pos rfl]
theorem zcb (w:World) (B rb:Nat) (M:MV) (lab:Nat→Nat) (h:Mem w B rb M lab (· = 0)) (mr0:List (Thk.OP × Value × Value)) (m0:Thk.OP × Value × Value) (ho:M.os=mr0++[m0]) (hb0:M.xs.length≤90000) (hb1:m0.1.seqs.length≤90000) (hb2:mr0.length≤90000) :
  Calls Tryz.prog 140 #[.pointer (some ⟨rb,0,none⟩)] w fun e' w'=>QS w B rb M.st.closed (.tuple #[.int .i64 ↑(M.xs.length+1),.string ⟨m0.1.sign.toArray⟩]) e' w':=by
 have hsl:=zcs w B rb M lab h mr0 m0 ho (by omega) (by omega) (by omega)
 have e1:M.st.top=m0.1:=by simp[MV.st,Thk.ST.top,ho,List.getLastD_concat]
 have e2:M.st.xs.length=M.xs.length:=by simp[MV.st]
 have hso:M.st.slash.os=mr0.map (·.1)++[⟨m0.1.seqs++[M.xs.length],[],m0.1.sign⟩]:=by
  unfold Thk.ST.slash
  rw[e1,e2]
  simp[MV.st,Thk.ST.setTop,Thk.ST.add,ho]
 have HCL:Hid (M.st.closed=({ M.st.slash with os:=mr0.map (·.1) }:Thk.ST).add ⟨6,[],[],0,m0.1.seqs++[M.xs.length]⟩):=by
  show _=_
  unfold Thk.ST.closed
  rw[e1,e2,show M.st.os.dropLast=mr0.map (·.1) from by simp[MV.st,ho]]
 have hsx:M.st.slash.xs.length=M.xs.length+1:=by
  unfold Thk.ST.slash
  simp[Thk.ST.setTop,Thk.ST.add,MV.st]
 have HSO:=(show Hid _ from hso)
 have HSX:=(show Hid _ from hsx)
 clear h ho hso e1 e2 hsx
 go_enter Tryz.func140,Tryz.ntmps140
 go_wp2_with fail
 refine hsl.mono ?_
 rintro e1 w1 ⟨rfl,M1,lab1,hM1,hK1,hS1⟩
 obtain⟨mr,m,ho,hmr,hm1⟩:=zbZ (M:=M1) (by rw[hS1];exact HSO.out)
 have hxl:M1.xs.length=M.xs.length+1:=by
  have:=HSX.out;rw[← hS1] at this;simpa [MV.st] using this
 have hmrl:mr.length=mr0.length:=by rw[← List.length_map (f:=(·.1)),hmr];simp
 have hL1:mr.length≤90000:=by omega
 have hrl:=hM1.lt
 have hge:=hM1.ge
 obtain⟨og,oc,hv,hgB,hol,hor,q0,q1,q2,qf⟩:=hM1.topAt ho
 have c2:w1.cell? ⟨rb,2,none⟩=some M1.vo:=z8 hM1.blk 2
 have f2:w1.frozen? ⟨rb,2,none⟩=false:=zi hM1.blk 2
 rw[hv] at c2
 obtain⟨h1,h2,h3,h4⟩:=(hM1.topCells ho hv).2.2.2.2.2.2
 have hse:m.1.seqs=m0.1.seqs++[M.xs.length]:=by rw[hm1]
 have hte:m.1.sign=m0.1.sign:=by rw[hm1]
 obtain⟨sa,sc,hvs⟩:=zl h1
 obtain⟨ta,tc,hvt⟩:=zl h3
 rw[hvs] at q0
 rw[hvt] at q1
 rw[hte] at q2
 have hL:(mr.length:Int)<(mr.length:Int)+1:=by omega
 have hcap:(mr.length:Int)≤(oc:Int):=by
  have hop:=hM1.op
  rw[hv,ho] at hop
  rcases hop.2 with ⟨hx,_⟩ | ⟨g',cap',cur,hx,_,_,hnc,_⟩
  ·simp at hx
  ·simp at hx;obtain⟨_,rfl⟩:=hx;simp at hnc;omega
 have HM1:Hid (Mem w1 B rb M1 lab1 (· = 0)):=hM1
 have HO:Hid (M1.os=mr++[m]):=ho
 have HV:Hid (M1.vo = .slice (some ⟨og,0,none⟩) (mr.length+1) oc):=hv
 have HVS:=(show Hid _ from hvs)
 have HVT:=(show Hid _ from hvt)
 have HSE:=(show Hid _ from hse)
 have HS1:Hid (M1.st=M.st.slash):=hS1
 have HXL:=(show Hid _ from hxl)
 have HMR:=(show Hid _ from hmr)
 have HK1:=(show Hid _ from hK1)
 clear hsl hM1 ho hv hvs hvt hse hS1 hm1 hte hmr hK1 hmrl h1 h2 h3 h4
 go_wp2_with fail
 go_region
 go_wp2_with fail
 go_region
 go_wp2_with fail
 have hpop:=HM1.out.pop HO.out HV.out
 obtain⟨hMp,hKp,hIp,hLp⟩:=hpop
 generalize hWe:((w1.setCell ⟨rb,2,none⟩ (.slice (some ⟨og,0,none⟩) mr.length oc)).alloc (.cells #[.slice sa m.1.seqs.length sc,.slice ta m.1.terms.length tc,.string ⟨m0.1.sign.toArray⟩] 209)).drew.drew=W
 have hbW:Below (w1.setCell ⟨rb,2,none⟩ (.slice (some ⟨og,0,none⟩) mr.length oc)).heap.size (w1.setCell ⟨rb,2,none⟩ (.slice (some ⟨og,0,none⟩) mr.length oc)) W:=by
  rw[← hWe];exact ((zc _ _).drew).drew
 have hMW:=hMp.below hbW (fun _ _=>rfl)
 have hIW:Ints W B m.2.1 m.1.seqs:=Zv hIp hbW
 have hKW:KT B w1 W:=by
  rw[← hWe]
  exact ((hKp.trans (KT.alloc B _ (by simp;omega) _)).drew).drew
 have hoW:W.heap[w1.heap.size]? = some (.cells #[.slice sa m.1.seqs.length sc,.slice ta m.1.terms.length tc,.string ⟨m0.1.sign.toArray⟩] 209 (0,0)):=by
  rw[← hWe]
  show ((w1.setCell _ _).alloc _).heap[_]? = _
  rw[show w1.heap.size=(w1.setCell ⟨rb,2,none⟩ (.slice (some ⟨og,0,none⟩) mr.length oc)).heap.size from by simp];exact heap_alloc_new _ _
 have hszW:W.heap.size=w1.heap.size+1:=by rw[← hWe];show ((w1.setCell _ _).alloc _).heap.size=_;simp
 clear hWe hbW hMp hKp hIp c2 f2 q0 q1 q2 qf
 obtain⟨Mp,hMpe⟩:∃ Mp,Mp=({ M1 with vo:=.slice (some ⟨og,0,none⟩) mr.length oc,os:=mr }:MV):=⟨_,rfl⟩
 obtain⟨labp,hlabe⟩:∃ l,l=(fun b=>if lab1 b=2 * mr.length+1 then 0 else lab1 b):=⟨_,rfl⟩
 rw[← hMpe,← hlabe] at hMW
 rw[← hlabe] at hLp
 have hxp:Mp.xs.length=M.xs.length+1:=by rw[hMpe];exact HXL.out
 have HSTp:Hid (Mp.st=({ M.st.slash with os:=mr0.map (·.1) }:Thk.ST)):=by
  show _=_
  rw[hMpe,← HS1.out,← HMR.out]
  rfl
 obtain⟨xa,xc,hx⟩:=zl hMW.ex
 have had1:=YG W.drew B rb xa xc Mp.xs.length Mp.vr Mp.vo Mp.sign Mp.may (Mp.xs.flatMap exC) 6 none 0 0 ⟨#[]⟩ 0 sa m.1.seqs.length sc (by rw[← hx];exact hMW.blk) (by rw[← hx];exact hMW.ex) (by omega) hMW.ge
 simp only[show ((6:Nat):Int)=6 from rfl] at had1
 have o0:W.cell? ⟨w1.heap.size,0,none⟩=some (.slice sa m.1.seqs.length sc):=z8 hoW 0
 have o2:W.cell? ⟨w1.heap.size,2,none⟩=some (.string ⟨m0.1.sign.toArray⟩):=z8 hoW 2
 have HMW:Hid (Mem W B rb Mp labp (· = 0)):=hMW
 have HIW:=(show Hid _ from hIW)
 have HLP:=(show Hid _ from hLp)
 have HKW:=(show Hid _ from hKW)
 have HOW:=(show Hid _ from hoW)
 have HX:=(show Hid _ from hx)
 have hne:some w1.heap.size≠(Value.slice xa Mp.xs.length xc).ownBlock:=fun e1=>by
  have:=zn hMW.ex hoW (by decide)
  rw[hx] at this
  exact this e1.symm
 have HNE:=(show Hid _ from hne)
 have hrl2:rb<w1.heap.size:=hrl
 clear hMW hIW hLp hKW hoW hMpe hlabe hx hne
 go_region_with (go_at_call 102;go_loud (refine had1.mono ?_;rintro e1 w2 ⟨xg,xcap,rfl,hAE⟩;have y2:w2.cell? ⟨w1.heap.size,2,none⟩=some (.string ⟨m0.1.sign.toArray⟩):=(World.cell?_of_block (hAE.same w1.heap.size (by simp;omega) (by omega) HNE.out)).trans o2))
 all_goals go_wp2_with fail
 all_goals
  have hend:=HMW.out.drew.add (re:=⟨6,[],[],0,m.1.seqs⟩) (iv:=.slice none 0 0) (pv:=m.2.1) (by rw[HX.out,HVS.out];exact hAE) (World.ownsRow_nil _ _ _ _) HIW.out (fun b hb=>HLP.out b hb)
  go_ret2
  refine⟨rfl,_,_,hend.1,?_,?_⟩
  ·exact HK1.out.trans (HKW.out.trans ((KT.refl B W).drew.trans hend.2))
  ·rw[HCL.out,← HSTp.out,← HSE.out]
   simp[MV.st,Thk.ST.add]
theorem zbx (ps:List (Thk.RE × Value × Value)) (i j:Nat) (hi:i<ps.length) (hj:j<5):(ps.flatMap exC)[i * 5+j]? = (exC ps[i])[j]? := by
 induction ps generalizing i with
 | nil=>simp at hi
 | cons p ps ih=>
  have hl:(exC p).length=5:=rfl
  cases i with
  | zero=>
   simp only[List.flatMap_cons,Nat.zero_mul,Nat.zero_add,List.getElem_cons_zero]
   rw[List.getElem?_append_left (by omega)]
  | succ i=>
   simp only[List.flatMap_cons,List.getElem_cons_succ]
   rw[List.getElem?_append_right (by omega),hl,show (i+1) * 5+j - 5=i * 5+j from by omega]
   exact ih i (by simpa using hi)
theorem zby (ps:List (Thk.RE × Value × Value)) (i j:Nat) (hi:i<ps.length) (hj:j<5) (u:Value) (q:Thk.RE × Value × Value) (hq:(exC ps[i]).set j u=exC q):(ps.flatMap exC).set (i * 5+j) u=(ps.set i q).flatMap exC:=by
 induction ps generalizing i with
 | nil=>simp at hi
 | cons p ps ih=>
  have hl:(exC p).length=5:=rfl
  cases i with
  | zero=>
   simp only[List.flatMap_cons,Nat.zero_mul,Nat.zero_add,List.set_cons_zero]
   rw[List.set_append_left _ _ (by omega)]
   simp only[List.getElem_cons_zero] at hq
   rw[hq]
  | succ i=>
   simp only[List.flatMap_cons,List.set_cons_succ]
   rw[List.set_append_right _ _ (by omega),hl,show (i+1) * 5+j - 5=i * 5+j from by omega]
   simp only[List.getElem_cons_succ] at hq
   rw[ih i (by simpa using hi) hq]
theorem Mem.exAt {w:World} {B rb:Nat} {M:MV} {lab:Nat→Nat} {P:Nat→Prop} (h:Mem w B rb M lab P) (hn : 0<M.xs.length) :
  ∃ xg xc,M.vx = .slice (some ⟨xg,0,none⟩) M.xs.length xc∧B≤xg∧xg<w.heap.size∧(∃ cs,w.heap[xg]? = some (.cells cs 149 (0,0)))∧(∀ o,w.frozen? ⟨xg,o,none⟩=false) ∧
   ∀ k (hk:k<M.xs.length),w.cell? ⟨xg,k * 5,none⟩=some (.int .i64 M.xs[k].1.kind)∧w.cell? ⟨xg,k * 5+1,none⟩=some M.xs[k].2.1∧w.cell? ⟨xg,k * 5+2,none⟩=some (.string ⟨M.xs[k].1.text.toArray⟩)∧w.cell? ⟨xg,k * 5+3,none⟩=some (.int .i64 M.xs[k].1.rule)∧w.cell? ⟨xg,k * 5+4,none⟩=some M.xs[k].2.2:=by
 have hex:=h.ex
 obtain⟨xg,xc,hv,hb,hl⟩:=hex.form hn
 rw[hv] at hex
 refine⟨xg,xc,hv,hb,hl,Qw hex rfl,fun o=>hex.frozenAt o,fun k hk=>?_⟩
 have hc:∀ j,j<5→w.cell? ⟨xg,k * 5+j,none⟩=(exC M.xs[k])[j]? := fun j hj=>by rw[hex.cellAt _ (by omega),zbx _ _ _ hk hj]
 exact⟨hc 0 (by decide),hc 1 (by decide),hc 2 (by decide),hc 3 (by decide),hc 4 (by decide)⟩
theorem Mem.setParts {w:World} {B rb:Nat} {M:MV} {lab:Nat→Nat} (h:Mem w B rb M lab (· = 0)) {k:Nat} (hk:k<M.xs.length) {xg xc:Nat} (hv:M.vx = .slice (some ⟨xg,0,none⟩) M.xs.length xc) {pv:Value} {ns:List Nat} (hp:Ints w B pv ns) (hl:Lab lab pv 0) :
  Mem (w.setCell ⟨xg,k * 5+4,none⟩ pv) B rb { M with xs:=M.xs.set k ({ M.xs[k].1 with parts:=ns },M.xs[k].2.1,pv) } lab (· = 0)∧KT B w (w.setCell ⟨xg,k * 5+4,none⟩ pv):=by
 have c:=Chg.set xg (k * 5+4) pv w
 have hex:=h.ex
 rw[hv] at hex
 obtain⟨cs,hxb⟩:=Qw hex (b:=xg) rfl
 have hnr:rb≠xg:=by
  intro e1;subst e1
  have:=zn hex h.blk (by decide)
  simp[Value.ownBlock] at this
 have hst:=(hex.stored (k * 5+4) pv).1
 rw[zby M.xs k 4 hk (by decide) pv ({ M.xs[k].1 with parts:=ns },M.xs[k].2.1,pv) rfl] at hst
 have hmem:∀ p ∈ M.xs.set k ({ M.xs[k].1 with parts:=ns },M.xs[k].2.1,pv),p ∈ M.xs∨p=({ M.xs[k].1 with parts:=ns },M.xs[k].2.1,pv):=fun p hp=>List.mem_or_eq_of_mem_set hp
 refine⟨⟨h.ge,by rw[c.same rb h.lt hnr];exact h.blk,?_,zq c h.ru (zn h.ru hxb (by decide)),zq c h.op (zn h.op hxb (by decide)),?_,?_,?_⟩,KT.chg c (by have:=h.lt;have:=h.ge;omega) (hex.lt xg rfl).1 (fun cs' t fr hb=>by rw[hxb] at hb;simp at hb;rw[← hb.2.1];decide)⟩
 ·simp only[hv,List.length_set];exact hst
 ·intro p hpm
  rcases hmem p hpm with hpm | rfl
  ·exact zq c (h.items p hpm) (zn (h.items p hpm) hxb (by decide))
  ·have:=h.items M.xs[k] (List.getElem_mem hk)
   exact zq c this (zn this hxb (by decide))
 ·intro p hpm
  rcases hmem p hpm with hpm | rfl
  ·exact⟨zq c (h.parts p hpm).1 (zn (h.parts p hpm).1 hxb (by decide)),(h.parts p hpm).2⟩
  ·exact⟨zq c hp (zn hp hxb (by decide)),hl⟩
 ·intro j hj
  obtain⟨h1,h2,h3,h4⟩:=h.opens j hj
  exact⟨zq c h1 (zn h1 hxb (by decide)),h2,zq c h3 (zn h3 hxb (by decide)),h4⟩
theorem Mem.setLast {w:World} {B rb:Nat} {M:MV} {lab:Nat→Nat} (h:Mem w B rb M lab (· = 0)) {mr:List (Thk.OP × Value × Value)} {m:Thk.OP × Value × Value} (ho:M.os=mr++[m]) {tl:List Nat} {k:Nat} (ht:m.1.terms=tl++[k]) {tg tc:Nat} (hv:m.2.2 = .slice (some ⟨tg,0,none⟩) (tl.length+1) tc) (n:Nat) :
  Mem (w.setCell ⟨tg,tl.length,none⟩ (.int .i64 n)) B rb { M with os:=mr++[({ m.1 with terms:=tl++[n] },m.2.1,m.2.2)] } lab (· = 0)∧KT B w (w.setCell ⟨tg,tl.length,none⟩ (.int .i64 n)):=by
 have c:=Chg.set tg tl.length (.int .i64 n) w
 have hlen:mr.length<M.os.length:=by rw[ho];simp
 have hle:M.os.length=mr.length+1:=by rw[ho];simp
 have hm : M.os[mr.length]'hlen = m := by simp only [ho]; rw [List.getElem_append_right (Nat.le_refl _)]; simp
 obtain⟨h1,h2,h3,h4⟩:=h.opens mr.length hlen
 rw[hm] at h1 h2 h3 h4
 have hlt:lab tg=2 * mr.length+2:=h4 tg (by rw[hv];rfl)
 have h3':w.ownsRow B 3 1 (.slice (some ⟨tg,0,none⟩) (tl.length+1) tc) (tl.length+1) ((tl++[k]).map Zq):=by
  have h3:=h3;unfold Ints at h3;rw[hv,ht] at h3;simpa using h3
 obtain⟨cs,htb⟩:=Qw h3' (b:=tg) rfl
 have hst:=(h3'.stored tl.length (.int .i64 n)).1
 have hnr:rb≠tg:=by
  intro e1;subst e1
  have:=zn h3' h.blk (by decide)
  simp[Value.ownBlock] at this
 have hlb:∀ (v:Value) (l:Nat),Lab lab v l→l≠2 * mr.length+2→v.ownBlock≠some tg:=by
  intro v l hv hl e1
  have:=hv tg e1
  omega
 refine⟨⟨h.ge,by rw[c.same rb h.lt hnr];exact h.blk,zq c h.ex (zn h.ex htb (by decide)),zq c h.ru (zn h.ru htb (by decide)),?_,fun p hp=>zq c (h.items p hp) (zn (h.items p hp) htb (by decide)),fun p hp=>⟨zq c (h.parts p hp).1 (hlb _ 0 (h.parts p hp).2 (by omega)),(h.parts p hp).2⟩,?_⟩,KT.chg c (by have:=h.lt;have:=h.ge;omega) (h3'.lt tg rfl).1 (fun cs' t fr hb=>by rw[htb] at hb;simp at hb;rw[← hb.2.1];decide)⟩
 ·have hop:=h.op
  rw[ho] at hop
  have:=zq c hop (zn hop htb (by decide))
  simpa [opC] using this
 ·intro j hj
  simp only[] at hj ⊢
  by_cases hjm:j<mr.length
  ·rw[List.getElem_append_left hjm]
   obtain⟨i1,i2,i3,i4⟩:=h.opens j (by omega)
   simp only[ho,List.getElem_append_left hjm] at i1 i2 i3 i4
   exact⟨zq c i1 (hlb _ _ i2 (by omega)),i2,zq c i3 (hlb _ _ i4 (by omega)),i4⟩
  ·have hje:j=mr.length:=by simp at hj;omega
   subst hje
   rw[List.getElem_append_right (Nat.le_refl _)]
   simp only[Nat.sub_self,List.getElem_cons_zero]
   refine⟨zq c h1 (hlb _ _ h2 (by omega)),h2,?_,h4⟩
   unfold Ints
   rw[hv]
   have e1:((tl++[k]).map Zq).set tl.length (.int .i64 n)=(tl++[n]).map Zq:=by
    rw[List.map_append,List.set_append_right _ _ (by simp)]
    simp[Zq]
   rw[e1] at hst
   simpa using hst
end Go.Proofs.YtiganlkabilblaaGreatDoor
