import Derived.Test.YtiganlkabilblaaGreatDoorVP29
import Derived.Test.YtiganlkabilblaaGreatDoorVP00
import Derived.Test.YtiganlkabilblaaGreatDoorVP01
set_option linter.all false
set_option maxHeartbeats 64000000
set_option maxRecDepth 100000
namespace Go.Proofs.YtiganlkabilblaaGreatDoor
open Go.RowKit Thk Go.Lib
def Pr.mux (p:Pr) (x:Nat):Prop:=x=p.xb∨x=p.mb∨p.iv.ownBlock=some x
structure z3 (B:Nat) (w:World) (p:Pr):Prop where
 all:Zo p.t.data.toList (.ok (p.g,p.E))
 ted:Jv w p.mb p.N p.bx p.rs p.vr p.S
 blk:w.heap[p.mb]? = some (Zz p.vr ⟨#[]⟩ (.map none) .nilIface)
 dnr:DnR p.N p.rs p.g
 ssz:p.s.size≤200
 rd:p.rd B w
 mu:∀ x,p.mux x→B≤x∧¬ p.S x
section
variable {B : Nat} {w : World} {p : Pr}
theorem z3.opn (h:z3 B w p) (hd:p.dn=false):w.heap[p.xb]? = some (ZE p.mb 1 p.iv 0 .nilIface false)∧w.ownsRow B 5 1 p.iv p.s.size (strCells p.s):=by
 have:=h.rd
 unfold Pr.rd at this
 rw[if_neg (by simp[hd])] at this
 exact this
theorem z3.sht (h:z3 B w p) (hd:p.dn=true):p.iv = .slice none 0 0∧∃ o,(∀ h : 0<p.g.length,Ev p.g p.s.data.toList (.C p.g[0].choice) 0 o)∧w.heap[p.xb]? = some (rdU p.mb 2 (.slice none 0 0) o):=by
 have:=h.rd
 unfold Pr.rd at this
 rw[if_pos hd] at this
 exact this
theorem z3.shtC (h:z3 B w p) (hd:p.dn=true):∃ c nv ok,w.heap[p.xb]? = some (ZE p.mb 2 (.slice none 0 0) c nv ok):=by
 obtain⟨_,o,_,ho⟩:=h.sht hd
 obtain⟨c,nv,e⟩:=zcc p.mb 2 (.slice none 0 0) o
 rw[e] at ho
 exact⟨_,_,_,ho⟩
theorem z3.below {w':World} (h:z3 B w p) (hb:Below w.heap.size w w'):z3 B w' p:=by
 refine⟨h.all,h.ted.below hb,by rw[hb.block _ (zd h.blk)];exact h.blk,h.dnr,h.ssz,?_,h.mu⟩
 have hr:=h.rd
 unfold Pr.rd at hr ⊢
 by_cases hd:p.dn=true
 ·rw[if_pos hd] at hr ⊢
  obtain⟨h1,o,h2,h3⟩:=hr
  exact⟨h1,o,h2,by rw[hb.block _ (zd h3)];exact h3⟩
 ·rw[if_neg hd] at hr ⊢
  exact⟨by rw[hb.block _ (zd hr.1)];exact hr.1,Zv hr.2 hb⟩
theorem z3.upd {w':World} (h:z3 B w p) (hg:GrW w w' p.mux) (hB:B≤w.heap.size) {s':ByteArray} {dn':Bool} {iv':Value} (hs:s'.size≤200) (hb:w'.heap[p.mb]? = some (Zz p.vr ⟨#[]⟩ (.map none) .nilIface)) (hr:Pr.rd B w' { p with s:=s',dn:=dn',iv:=iv' }) (hi:∀ x,iv'.ownBlock=some x→p.iv.ownBlock=some x∨w.heap.size≤x):z3 B w' { p with s:=s',dn:=dn',iv:=iv' }∧Below B w w':=by
 refine⟨⟨h.all,h.ted.same hg.size (fun x hx=>hg.block x (h.ted.lt x hx) (fun hm=>(h.mu x hm).2 hx)),hb,h.dnr,hs,hr,?_⟩,hg.belowOf hB (fun x hx=>(h.mu x hx).1)⟩
 rintro x (rfl | rfl | hx)
 ·exact h.mu _ (.inl rfl)
 ·exact h.mu _ (.inr (.inl rfl))
 ·rcases hi x hx with h1 | h1
  ·exact h.mu _ (.inr (.inr h1))
  ·exact⟨by omega,fun hS=>by have:=h.ted.lt x hS;omega⟩
theorem zk5 {w:World} {a b:Nat} {cs ds:Array Value} {T U:TypeId} (ha:w.heap[a]? = some (.cells cs T (0,0))) (hb:w.heap[b]? = some (.cells ds U (0,0))) (h:T≠U):a≠b:=by
 rintro rfl
 rw[ha] at hb
 simp at hb
 exact h hb.2
theorem zlw (s q:ByteArray):strCells (s++q)=strCells s++strCells q:=by
 simp[strCells,ByteArray.data_append]
theorem zl1 (h:z3 B w p) (hd:p.dn=false) (hB:B≤w.heap.size) (q:ByteArray) (hq:p.s.size+q.size≤200) :
  Calls Tryz.prog 33 #[z9 p.xb,.string q] w fun e w1=>e = .returned (.int .i64 0)∧Below B w w1∧∃ iv',z3 B w1 { p with s:=p.s++q,dn:=false,iv:=iv' }:=by
 obtain⟨hx,hown⟩:=h.opn hd
 have hne:∀ b cs T,w.heap[b]? = some (.cells cs T (0,0))→T≠5→p.iv.ownBlock≠some b:=fun b cs T hb hT e=>by
  obtain⟨cur,hc⟩:=Zr hown e
  exact zk5 hb hc hT rfl
 refine (zc5 hx h.ssz (by omega) hown hB (hne _ _ _ hx (by decide))).mono ?_
 intro e w1 h1
 unfold Kq at h1
 rw[if_pos rfl,if_neg (by omega)] at h1
 obtain⟨rfl,iv',hx1,hown1,hg1,hiv⟩:=h1
 have hmb1:w1.heap[p.mb]? = some (Zz p.vr ⟨#[]⟩ (.map none) .nilIface):=by
  rw[hg1.block _ (zd h.blk) (by
   rintro (e | e)
   ·exact zk5 hx h.blk (by decide) e.symm
   ·exact hne _ _ _ h.blk (by decide) e)]
  exact h.blk
 obtain⟨k1,k2⟩:=h.upd (s':=p.s++q) (dn':=false) (iv':=iv') (hg1.imp (by
  rintro x (e | e)
  ·exact .inl e
  ·exact .inr (.inr e))) hB (by rw[ByteArray.size_append];omega) hmb1 (by
  unfold Pr.rd
  rw[if_neg (by simp)]
  refine⟨hx1,?_⟩
  simp only[ByteArray.size_append,zlw]
  exact hown1) (fun x hx=>by
  rcases hiv with e | ⟨g,e,hg⟩
  ·exact .inl (by rw[← e];exact hx)
  ·rw[e] at hx;cases hx
   exact .inr hg)
 exact⟨rfl,k2,iv',k1⟩
theorem zl2 (h:z3 B w p) (hd:p.dn=true) (hB:B≤w.heap.size) (q:ByteArray) (hq:q.size≤200) :
  Calls Tryz.prog 33 #[z9 p.xb,.string q] w fun e w1=>e = .returned (.int .i64 10)∧w1=w:=by
 obtain⟨c,nv,ok,hx⟩:=h.shtC hd
 refine (zc5 (s:=⟨#[]⟩) (B:=B) hx (by decide) (by omega) (World.ownsRow_nil _ _ _ _) hB (by simp[Value.ownBlock])).mono ?_
 intro e w1 h1
 unfold Kq at h1
 rw[if_neg (by decide)] at h1
 exact h1
theorem zkY (h:z3 B w p) (hd:p.dn=false) (hB:B≤w.heap.size) (o:Out) (ho:∀ hp : 0<p.g.length,Ev p.g p.s.data.toList (.C p.g[0].choice) 0 o) :
  Calls Tryz.prog 35 #[z9 p.xb] w fun e w1=>e = .returned (.tuple #[.int .i64 (zN o),.bool o.isSome,.int .i64 0])∧Below B w w1∧z3 B w1 { p with s:=p.s,dn:=true,iv:=.slice none 0 0 }:=by
 obtain⟨hx,hown⟩:=h.opn hd
 have hgp:=h.all.ends.pos
 have hle:zN o≤1000000:=by
  cases o with
  | none=>exact Nat.zero_le _
  | some x=>
   have h1:=((ho hgp).le (Nat.zero_le _) x.1 x.2 rfl).2
   have h2:p.s.data.toList.length=p.s.size:=rfl
   have h3:=h.ssz
   simp only[zN];omega
 refine (zh8 hx h.ssz hown h.ted h.blk h.dnr hgp h.all.rules20 o (ho hgp) hle (zk5 hx h.blk (by decide))).mono ?_
 rintro e w1 ⟨rfl,hx1,hm1,hk1⟩
 obtain⟨k1,k2⟩:=h.upd (s':=p.s) (dn':=true) (iv':=.slice none 0 0) (hk1.grw (by
  intro x hx
  simp only[List.mem_cons,List.not_mem_nil,or_false] at hx
  rcases hx with e | e
  ·exact .inl e
  ·exact .inr (.inl e))) hB h.ssz hm1 (by
  unfold Pr.rd
  rw[if_pos rfl]
  exact⟨rfl,o,ho,hx1⟩) (fun x hx=>by simp[Value.ownBlock] at hx)
 exact⟨rfl,k2,k1⟩
theorem zlc (h:z3 B w p) (hd:p.dn=true):Calls Tryz.prog 34 #[z9 p.xb] w fun e w1=>qF p.t.data.toList p.s w e w1:=by
 obtain⟨_,o,ho,hx⟩:=h.sht hd
 have hgp:=h.all.ends.pos
 have hsl:p.s.data.toList.length≤200:=h.ssz
 have hns:¬ 200<p.s.size:=by have:=h.ssz;omega
 have hwf:∀ x,o=some x→wfN x.2∧szN x.2≤900000:=by
  rintro x rfl
  have h1:=qj h.all.ends h.all.rules20 hsl ho
  exact⟨(ho hgp).wf trivial x.1 x.2 rfl,by omega⟩
 cases o with
 | none=>
  refine (zc8 hx hwf).mono ?_
  rintro e w1 ⟨rfl,rfl⟩
  refine⟨Below.refl _ _,_,_,rfl,.ok (p.g,p.E),h.all,?_⟩
  simp only[]
  rw[if_neg hns]
  exact⟨none,ho,by first | rfl | trivial,by first | rfl | trivial⟩
 | some x=>
  refine (zc8 hx hwf).mono ?_
  rintro e w1 ⟨a,c,rfl,hN,hb1⟩
  refine⟨hb1,_,_,rfl,.ok (p.g,p.E),h.all,?_⟩
  simp only[]
  rw[if_neg hns]
  exact⟨some x,ho,by first | rfl | trivial,a,c,rfl,hN⟩
theorem zld (h:z3 B w p) (hd:p.dn=false):Calls Tryz.prog 34 #[z9 p.xb] w fun e w1=>e = .returned (.tuple #[.slice none 0 0,.int .i64 11])∧w1=w:=
 zhl (h.opn hd).1 (by decide)
theorem zkR (h:z3 B w p) (hd:p.dn=true) (hB:B≤w.heap.size) :
  Calls Tryz.prog 36 #[z9 p.xb] w fun e w1=>e = .returned (.int .i64 0)∧Below B w w1∧z3 B w1 { p with s:=⟨#[]⟩,dn:=false,iv:=.slice none 0 0 }:=by
 obtain⟨c,nv,ok,hx⟩:=h.shtC hd
 refine (zc3 hx).mono ?_
 rintro e w1 ⟨hk1,h1⟩
 rw[if_pos rfl] at h1
 obtain⟨rfl,hx1⟩:=h1
 have hmb1:w1.heap[p.mb]? = some (Zz p.vr ⟨#[]⟩ (.map none) .nilIface):=by
  rw[hk1.block _ (zd h.blk) (by simp only[List.mem_singleton];exact fun e=>zk5 hx h.blk (by decide) e.symm)]
  exact h.blk
 obtain⟨k1,k2⟩:=h.upd (s':=⟨#[]⟩) (dn':=false) (iv':=.slice none 0 0) (hk1.grw (by
  intro x hx
  simp only[List.mem_singleton] at hx
  exact .inl hx)) hB (by decide) hmb1 (by
  unfold Pr.rd
  rw[if_neg (by simp)]
  exact⟨hx1,World.ownsRow_nil _ _ _ _⟩) (fun x hx=>by simp[Value.ownBlock] at hx)
 exact⟨rfl,k2,k1⟩
theorem z3.new {t:ByteArray} {w w1:World} {g:List ze} {E:List Bool} {xb mb:Nat} {N:List Nd} {bx:List (Nat × Nat × Nat)} {rs:List Nat} {vr:Value} {S:Nat→Prop} (hP:Zo t.data.toList (.ok (g,E))) (hM:qx w.heap.size g w w1 mb N bx rs vr S) (hx:w1.heap[xb]? = some (ZE mb 1 (.slice none 0 0) 0 .nilIface false)) (hge:w.heap.size≤xb) (hS:¬ S xb) (hB:B≤w.heap.size) :
  z3 B w1 ⟨xb,0,mb,N,bx,rs,vr,S,t,g,E,⟨#[]⟩,false,.slice none 0 0⟩:=by
 refine⟨hP,hM.ted,hM.blk,hM.dn,by show (0:Nat)≤200;omega,?_,?_⟩
 ·unfold Pr.rd
  rw[if_neg (by simp)]
  exact⟨hx,World.ownsRow_nil _ _ _ _⟩
 ·rintro x (rfl | rfl | e)
  ·exact⟨Nat.le_trans hB hge,hS⟩
  ·exact⟨Nat.le_trans hB hM.mge,hM.ted.nm⟩
  ·simp[Value.ownBlock] at e
end
end Go.Proofs.YtiganlkabilblaaGreatDoor
namespace Go.Proofs.YtiganlkabilblaaGreatDoor
open Go.RowKit
def YY (c:Int) (n:Nat):Nat:=(if c<0 then -(c+1) else c).toNat % n
theorem zh9 (c:Int) {n:Nat} (h : 0<n):YY c n<n:=Nat.mod_lt _ h
def i64 (c:Int):Prop:=-9223372036854775808≤c∧c<9223372036854775808
theorem zd7 (k:Int) (n:Nat) (hk : 0≤k):k.tmod n = ↑(k.toNat % n):=by
 obtain⟨m,rfl⟩:=Int.eq_ofNat_of_zero_le hk
 rw[← Int.ofNat_tmod];rfl
theorem zha (c:Int) (n:Nat) (h:c<0) : -(c+1).tmod n = ↑(YY c n):=by
 rw[← Int.neg_tmod,zd7 _ _ (by omega)];simp only[YY,h,if_true]
theorem zhb (c:Int) (n:Nat) (h : 0≤c):c % n = ↑(YY c n):=by
 rw[← Int.tmod_eq_emod_of_nonneg h,zd7 _ _ h];simp only[YY,show ¬ c<0 by omega,if_false]
theorem zk7 (c:Int) (n:Nat) (w:World) (hc:i64 c) (h0 : 0<n) (hn:n≤1099511627776) :
  Calls Tryz.prog 32 #[.int .i64 c,.int .i64 n] w fun e w'=>e = .returned (.int .i64 ↑(YY c n))∧w'=w:=by
 obtain⟨h1,h2⟩:=hc
 have hne:(n:Int)≠0:=by omega
 go_enter Tryz.func32,Tryz.ntmps32
 go_wp2
 all_goals go_ret
 ·exact⟨by rw[← zha c n (by assumption)];rfl,rfl⟩
 ·exact⟨by rw[← zhb c n (by assumption)];rfl,rfl⟩
theorem zl6 (w:World):Calls Tryz.prog 26 #[] w fun e w'=>e = .returned (.string ⟨#[32,110,117,109,32,60,45,32,91,48,45,57,93,32,110,117,109,63,32,119,111,114,100,32,60,45,32,39,97,39,32,119,111,114,100,32,39,98,39,32,47,32,39,99,39,32,39,97,39,63]⟩)∧w'=w:=by
 go_enter Tryz.func26,Tryz.ntmps26
 go_wp2
 go_ret
 exact⟨rfl,rfl⟩
abbrev bs (l:List UInt8):ByteArray:=⟨l.toArray⟩
theorem zf (a b:List UInt8):bs a++bs b=bs (a++b):=by
 apply ByteArray.ext;simp[bs]
theorem zjU (a:List UInt8):(bs a).size=a.length:=by simp[bs,ByteArray.size]
abbrev mdV (t:List UInt8) (e:Bool) (d:Nat):Value:=.agg #[.string (bs t),.bool e,.int .i64 d]
abbrev mdO (t:List UInt8) (e:Bool) (d:Nat):Obj:=.cells #[.string (bs t),.bool e,.int .i64 d] 43
def z5 (style:Int):List UInt8:=[[],[32],[10,9],[32,35,32,111,114,10]].getD (YY style 4) []
theorem zkU (t:List UInt8) (e:Bool) (d:Nat) (style:Int) (w:World) (hs:i64 style) (ht:t.length≤100000) (hd:d≤1000) :
  Calls Tryz.prog 80 #[mdV t e d,.int .i64 style] w fun e' w'=>e' = .returned (mdV (40::(z5 style++(t++(z5 style++[41])))) e (d+1))∧Below w.heap.size w w':=by
 have hp:=fun w=>zk7 style 4 w hs (by decide) (by decide)
 have h4:=zh9 style (n:=4) (by decide)
 have hk:YY style 4=0∨YY style 4=1∨YY style 4=2∨YY style 4=3:=by omega
 have hsz:=zjU t
 rcases hk with hk | hk | hk | hk
 ·rw[hk] at hp
  have hb:z5 style=[]:=by unfold z5;rw[hk];rfl
  rw[hb]
  clear hk h4 hb hs
  go_enter Tryz.func80,Tryz.ntmps80
  go_wp2_with (first | (go_at_call 32;refine (hp _).mono ?_;rintro e w' ⟨rfl,rfl⟩))
  refine bodyPost_ret (v:=mdV (40::([]++(t++([]++[41])))) e (d+1)) (by simp[results,Tryz.results80,go_sem,zf]) rfl ⟨rfl,?_⟩
  exact ((zc w _).alloc (by simp) _).alloc (by simp;omega) _
 ·rw[hk] at hp
  have hb:z5 style=[32]:=by unfold z5;rw[hk];rfl
  rw[hb]
  clear hk h4 hb hs
  go_enter Tryz.func80,Tryz.ntmps80
  go_wp2_with (first | (go_at_call 32;refine (hp _).mono ?_;rintro e w' ⟨rfl,rfl⟩))
  refine bodyPost_ret (v:=mdV (40::([32]++(t++([32]++[41])))) e (d+1)) (by simp[results,Tryz.results80,go_sem,zf]) rfl ⟨rfl,?_⟩
  exact ((zc w _).alloc (by simp) _).alloc (by simp;omega) _
 ·rw[hk] at hp
  have hb:z5 style=[10,9]:=by unfold z5;rw[hk];rfl
  rw[hb]
  clear hk h4 hb hs
  go_enter Tryz.func80,Tryz.ntmps80
  go_wp2_with (first | (go_at_call 32;refine (hp _).mono ?_;rintro e w' ⟨rfl,rfl⟩))
  refine bodyPost_ret (v:=mdV (40::([10,9]++(t++([10,9]++[41])))) e (d+1)) (by simp[results,Tryz.results80,go_sem,zf]) rfl ⟨rfl,?_⟩
  exact ((zc w _).alloc (by simp) _).alloc (by simp;omega) _
 ·rw[hk] at hp
  have hb:z5 style=[32,35,32,111,114,10]:=by unfold z5;rw[hk];rfl
  rw[hb]
  clear hk h4 hb hs
  go_enter Tryz.func80,Tryz.ntmps80
  go_wp2_with (first | (go_at_call 32;refine (hp _).mono ?_;rintro e w' ⟨rfl,rfl⟩))
  refine bodyPost_ret (v:=mdV (40::([32,35,32,111,114,10]++(t++([32,35,32,111,114,10]++[41])))) e (d+1)) (by simp[results,Tryz.results80,go_sem,zf]) rfl ⟨rfl,?_⟩
  exact ((zc w _).alloc (by simp) _).alloc (by simp;omega) _
end Go.Proofs.YtiganlkabilblaaGreatDoor
