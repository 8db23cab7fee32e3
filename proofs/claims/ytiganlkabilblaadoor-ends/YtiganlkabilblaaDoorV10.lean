import Derived.Test.YtiganlkabilblaaDoorV01
import Derived.Test.YtiganlkabilblaaDoorV09
import Derived.Test.YtiganlkabilblaaDoorV04
import Derived.Test.YtiganlkabilblaaDoorV05
set_option linter.all false
set_option maxHeartbeats 64000000
set_option maxRecDepth 100000
namespace Go.Proofs.YtiganlkabilblaaDoor
theorem zkn (b tail:List UInt8) (pos:Nat) (h:Thk.blk false (b++tail)=b.length+Thk.blk false tail):TL pos (b++tail)=TL (pos+b.length) tail:=by
 have hd:(b++tail).drop (Thk.blk false (b++tail))=tail.drop (Thk.blk false tail):=by
  rw[h,List.drop_append];simp
 have ht:zG pos (b++tail)=zG (pos+b.length) tail:=by
  unfold zG;rw[hd,h];simp[Nat.add_assoc]
 rw[K9,K9 (pos+b.length) tail,ht,h]
 congr 2
 rw[Nat.add_assoc,List.drop_append,List.drop_eq_nil_of_le (by omega),List.nil_append]
 simp
theorem zk3 (x tail:List UInt8) (pos:Nat) (t:Thk.Tok) (hb:Thk.blk false (x++tail)=0) (ht:Thk.zM (x++tail)=t) (hl:t.kind.last=false) (hs:t.size=x.length) :
  TL pos (x++tail) = { t with place:=pos }::TL (pos+x.length) tail:=by
 have h1:zG pos (x++tail) = { t with place:=pos }:=by
  unfold zG;rw[hb];simp only[List.drop_zero,Nat.add_zero,ht]
 rw[K9,h1]
 simp only[hl,hs,hb,Bool.false_eq_true,if_false,Nat.zero_add]
 rw[List.drop_left]
theorem qo (c:UInt8) (t:List UInt8) (h1:Thk.Y9 c=false) (h2:c≠35):Thk.blk false (c::t)=0:=by
 simp[Thk.blk,h1,h2]
theorem qt (c:UInt8) (tail:List UInt8) (pos:Nat) (hs:Thk.Qf c=true):TL pos (c::tail)=⟨.sign c,pos,1,[],[]⟩::TL (pos+1) tail:=by
 have hc:c=47∨c=38∨c=33∨c=63∨c=42∨c=43∨c=40∨c=41∨c=46:=by
  simpa [Thk.Qf] using hs
 have ht:Thk.zM (c::tail)=⟨.sign c,0,1,[],[]⟩:=by
  rcases hc with rfl | rfl | rfl | rfl | rfl | rfl | rfl | rfl | rfl<;>simp[Thk.zM,Thk.Qu,Thk.Qf]
 have hb:Thk.blk false (c::tail)=0:=by
  rcases hc with rfl | rfl | rfl | rfl | rfl | rfl | rfl | rfl | rfl<;>exact qo _ _ (by decide) (by decide)
 exact zk3 [c] tail pos _ hb ht rfl rfl
theorem zqN (pos:Nat):TL pos []=[⟨.fin,pos,0,[],[]⟩]:=rfl
theorem zka (c:UInt8) (tail:List UInt8) (pos:Nat) (hs:Thk.Y9 c=true):TL pos (c::tail)=TL (pos+1) tail:=
 zkn [c] tail pos (by simp[Thk.blk,hs];omega)
def z4:List (List UInt8):=[[],[32],[10,9],[32,35,32,111,114,10]]
theorem zkb (b tail:List UInt8) (pos:Nat) (hb:b ∈ z4):TL pos (b++tail)=TL (pos+b.length) tail:=by
 apply zkn
 simp only[z4,List.mem_cons,List.not_mem_nil,or_false] at hb
 rcases hb with rfl | rfl | rfl | rfl
 ·simp
 ·simp[Thk.blk,Thk.Y9];omega
 ·simp[Thk.blk,Thk.Y9];omega
 ·simp[Thk.blk,Thk.Y9];omega
structure Stop (d:Nat) (pos:Nat) (tail:List UInt8):Prop where
 lets:Thk.ZQ tail=0
 none:Thk.zX d (TL pos tail)=false
 slash:(Thk.hd (TL pos tail)).kind≠.sign 47
 opt:(Thk.hd (TL pos tail)).kind≠.sign 63
 star:(Thk.hd (TL pos tail)).kind≠.sign 42
 plus:(Thk.hd (TL pos tail)).kind≠.sign 43
 arrow:(Thk.hd (TL pos tail)).kind≠.arrow
theorem zdX {ts:List Thk.Tok} (h1:(Thk.hd ts).kind≠.sign 63) (h2:(Thk.hd ts).kind≠.sign 42) (h3:(Thk.hd ts).kind≠.sign 43):Thk.Zg ts=(0,ts):=by
 unfold Thk.Zg
 split
 ·rename_i c hc
  rw[hc] at h1 h2 h3
  rw[if_neg]
  rintro (rfl | rfl | rfl)
  ·exact h1 rfl
  ·exact h2 rfl
  ·exact h3 rfl
 ·rfl
theorem Stop.behind {d pos:Nat} {tail:List UInt8} (h:Stop d pos tail):Thk.Zg (TL pos tail)=(0,TL pos tail):=zdX h.opt h.star h.plus
def Px (x:List UInt8) (dep:Nat) (c:Thk.Z5):Prop:=
 ∀ d pos tail,d+dep≤6→Stop d (pos+x.length) tail→Thk.Z8 d (TL pos (x++tail)) (.ok c (TL (pos+x.length) tail))
theorem zk2 {x:List UInt8} {dep:Nat} {t:Thk.Term} (h:∀ d pos tail,d+dep≤6→Stop d (pos+x.length) tail→Thk.zX d (TL pos (x++tail))=true∧Thk.QF d (TL pos (x++tail)) (.ok t (TL (pos+x.length) tail))) :
  Px x dep [[t]]:=by
 intro d pos tail hd hs
 obtain⟨h1,h2⟩:=h d pos tail hd hs
 exact .last (.cons h1 h2 (.nil hs.none)) hs.slash
def brk (b x:List UInt8):List UInt8:=40::(b++(x++(b++[41])))
theorem zjN (b x:List UInt8):(brk b x).length=x.length+2 * b.length+2:=by simp[brk];omega
theorem zkV (b x tail:List UInt8):brk b x++tail=40::(b++(x++(b++41::tail))):=by simp[brk]
theorem zl9 (b tail:List UInt8) (hb:b ∈ z4):Thk.ZQ (b++41::tail)=0:=by
 simp only[z4,List.mem_cons,List.not_mem_nil,or_false] at hb
 rcases hb with rfl | rfl | rfl | rfl<;>simp[Thk.ZQ,Thk.Qu]
theorem zlu (d pos:Nat) (b tail:List UInt8) (hb:b ∈ z4):Stop d pos (b++41::tail):=by
 have h:TL pos (b++41::tail)=⟨.sign 41,pos+b.length,1,[],[]⟩::TL (pos+b.length+1) tail:=by
  rw[zkb _ _ _ hb,qt _ _ _ (by decide)]
 refine⟨zl9 b tail hb,?_,?_,?_,?_,?_,?_⟩<;>simp[h,Thk.zX,Thk.hd]
theorem zk4 {b x:List UInt8} {dep:Nat} {c:Thk.Z5} (hb:b ∈ z4) (hx:Px x dep c) (d pos:Nat) (tail:List UInt8) (hd:d+dep+1≤6) :
  (Thk.hd (TL pos (brk b x++tail))).kind = .sign 40∧Thk.Qi d (TL pos (brk b x++tail)) (.ok (.group c) (TL (pos+(brk b x).length) tail)):=by
 rw[zkV,qt _ _ _ (by decide),zkb _ _ _ hb]
 have h1:=hx (d+1) (pos+1+b.length) (b++41::tail) (by omega) (zlu _ _ _ _ hb)
 have h2:TL (pos+1+b.length+x.length) (b++41::tail)=⟨.sign 41,pos+1+b.length+x.length+b.length,1,[],[]⟩::TL (pos+(brk b x).length) tail:=by
  rw[zkb _ _ _ hb,qt _ _ _ (by decide),zjN]
  congr 2;omega
 refine⟨rfl,?_⟩
 have h3:=Thk.Qi.group (d:=d) (ts:=⟨.sign 40,pos,1,[],[]⟩::TL (pos+1+b.length) (x++(b++41::tail))) rfl (by omega) h1 (by rw[h2];rfl)
 rw[h2] at h3
 exact h3
theorem zkp {ts:List Thk.Tok} (h:(Thk.hd ts).kind = .sign 40):Thk.Z9 ts=(0,ts):=by
 unfold Thk.Z9;rw[h];rfl
theorem zkq {d:Nat} {ts:List Thk.Tok} (h:(Thk.hd ts).kind = .sign 40):Thk.zX d ts=true:=by
 unfold Thk.zX;rw[h];rfl
theorem zjY {b x:List UInt8} {dep:Nat} {c:Thk.Z5} (hb:b ∈ z4) (hx:Px x dep c) (d pos:Nat) (tail:List UInt8) (hd:d+dep+1≤6) (hbe:Thk.Zg (TL (pos+(brk b x).length) tail)=(0,TL (pos+(brk b x).length) tail)) :
  Thk.zX d (TL pos (brk b x++tail))=true∧Thk.QF d (TL pos (brk b x++tail)) (.ok (.mk 0 (.group c) 0) (TL (pos+(brk b x).length) tail)):=by
 obtain⟨h1,h2⟩:=zk4 hb hx d pos tail hd
 refine⟨zkq h1,?_⟩
 have ha:=zkp h1
 have h3:=Thk.QF.ok (d:=d) (ts:=TL pos (brk b x++tail)) (p:=.group c) (rest:=TL (pos+(brk b x).length) tail) (by rw[ha];exact h2)
 rw[ha,hbe] at h3
 exact h3
theorem zkL {b x:List UInt8} {dep:Nat} {c:Thk.Z5} (hb:b ∈ z4) (hx:Px x dep c):Px (brk b x) (dep+1) [[.mk 0 (.group c) 0]]:=
 zk2 fun d pos tail hd hs=>zjY hb hx d pos tail (by omega) hs.behind
theorem zkK {b x:List UInt8} {dep:Nat} {c:Thk.Z5} (k:UInt8) (hk:k=63∨k=42∨k=43) (hb:b ∈ z4) (hx:Px x dep c):Px (brk b x++[k]) (dep+1) [[.mk 0 (.group c) k]]:=by
 apply zk2
 intro d pos tail hd hs
 rw[List.append_assoc]
 obtain⟨h1,h2⟩:=zk4 hb hx d pos ([k]++tail) (by omega)
 refine⟨zkq h1,?_⟩
 have ha:=zkp h1
 have hr:TL (pos+(brk b x).length) ([k]++tail)=⟨.sign k,pos+(brk b x).length,1,[],[]⟩::TL (pos+(brk b x++[k]).length) tail:=by
  rw[List.singleton_append,qt _ _ _ (by rcases hk with rfl | rfl | rfl<;>decide)]
  simp[Nat.add_assoc]
 have hbe:Thk.Zg (TL (pos+(brk b x).length) ([k]++tail))=(k,TL (pos+(brk b x++[k]).length) tail):=by
  rw[hr];rcases hk with rfl | rfl | rfl<;>rfl
 have h3:=Thk.QF.ok (d:=d) (ts:=TL pos (brk b x++([k]++tail))) (p:=.group c) (rest:=TL (pos+(brk b x).length) ([k]++tail)) (by rw[ha];exact h2)
 rw[ha,hbe] at h3
 exact h3
theorem zkI {b x:List UInt8} {dep:Nat} {c:Thk.Z5} (k:UInt8) (hk:k=38∨k=33) (hb:b ∈ z4) (hx:Px x dep c):Px (k::brk b x) (dep+1) [[.mk k (.group c) 0]]:=by
 apply zk2
 intro d pos tail hd hs
 rw[List.cons_append]
 have e:pos+1+(brk b x).length=pos+(k::brk b x).length:=by simp;omega
 obtain⟨h1,h2⟩:=zk4 hb hx d (pos+1) tail (by omega)
 rw[e] at h2
 have ha:Thk.Z9 (TL pos (k::(brk b x++tail)))=(k,TL (pos+1) (brk b x++tail)):=by
  rw[qt _ _ _ (by rcases hk with rfl | rfl<;>decide)]
  rcases hk with rfl | rfl<;>rfl
 have hbg:Thk.zX d (TL pos (k::(brk b x++tail)))=true:=by
  rw[qt _ _ _ (by rcases hk with rfl | rfl<;>decide)]
  rcases hk with rfl | rfl<;>rfl
 refine⟨hbg,?_⟩
 have h3:=Thk.QF.ok (d:=d) (ts:=TL pos (k::(brk b x++tail))) (p:=.group c) (rest:=TL (pos+(k::brk b x).length) tail) (by rw[ha];exact h2)
 rw[ha,hs.behind] at h3
 exact h3
theorem zkN {b x b' y:List UInt8} {d1 d2:Nat} {c c':Thk.Z5} (hb:b ∈ z4) (hb':b' ∈ z4) (hx:Px x d1 c) (hy:Px y d2 c'):Px (brk b x++[47]++brk b' y) (max (d1+1) (d2+1)) [[.mk 0 (.group c) 0],[.mk 0 (.group c') 0]]:=by
 intro d pos tail hd hs
 have e1:brk b x++[47]++brk b' y++tail=brk b x++(47::(brk b' y++tail)):=by simp
 have e2:pos+(brk b x++[47]++brk b' y).length=pos+(brk b x).length+1+(brk b' y).length:=by simp;omega
 rw[e2] at hs ⊢
 rw[e1]
 have hr:=qt 47 (brk b' y++tail) (pos+(brk b x).length) (by decide)
 obtain⟨h1,h2⟩:=zjY hb hx d pos (47::(brk b' y++tail)) (by omega) (by rw[hr];rfl)
 have h3:=zjY hb' hy d (pos+(brk b x).length+1) tail (by omega) hs.behind
 refine .more (.cons h1 h2 (.nil (by rw[hr];rfl))) (by rw[hr];rfl) ?_
 rw[hr]
 exact .last (.cons h3.1 h3.2 (.nil hs.none)) hs.slash
theorem zkJ {b x b' y:List UInt8} {d1 d2:Nat} {c c':Thk.Z5} (hb:b ∈ z4) (hb':b' ∈ z4) (hx:Px x d1 c) (hy:Px y d2 c'):Px (brk b x++[32]++brk b' y) (max (d1+1) (d2+1)) [[.mk 0 (.group c) 0,.mk 0 (.group c') 0]]:=by
 intro d pos tail hd hs
 have e1:brk b x++[32]++brk b' y++tail=brk b x++(32::(brk b' y++tail)):=by simp
 have e2:pos+(brk b x++[32]++brk b' y).length=pos+(brk b x).length+1+(brk b' y).length:=by simp;omega
 rw[e2] at hs ⊢
 rw[e1]
 have hr:=zka 32 (brk b' y++tail) (pos+(brk b x).length) (by decide)
 have h3:=zjY hb' hy d (pos+(brk b x).length+1) tail (by omega) hs.behind
 have hk:=(zk4 hb' hy d (pos+(brk b x).length+1) tail (by omega)).1
 obtain⟨h1,h2⟩:=zjY hb hx d pos (32::(brk b' y++tail)) (by omega) (by rw[hr];exact zdX (by rw[hk];simp) (by rw[hk];simp) (by rw[hk];simp))
 rw[hr] at h2
 exact .last (.cons h1 h2 (.cons h3.1 h3.2 (.nil hs.none))) hs.slash
theorem zkO {x:List UInt8} {t:Thk.Tok} {p:Thk.zC} (h:∀ tail,Thk.ZQ tail=0→Thk.blk false (x++tail)=0∧Thk.zM (x++tail)=t) (hl:t.kind.last=false) (hs:t.size=x.length) (hp:Thk.zU t=some p):Px x 0 [[.mk 0 p 0]]:=by
 apply zk2
 intro d pos tail hd hst
 obtain⟨h1,h2⟩:=h tail hst.lets
 have hT:=zk3 x tail pos t h1 h2 hl hs
 have hpp:Thk.zU { t with place:=pos }=some p:=hp
 have ha:Thk.Z9 (TL pos (x++tail))=(0,TL pos (x++tail)):=by
  rw[hT];unfold Thk.Z9
  simp only[Thk.hd,List.headD_cons]
  split
  ·rename_i c hc
   rw[if_neg]
   rintro (rfl | rfl)<;>simp[Thk.zU,hc] at hp
  ·rfl
 have hbg:Thk.zX d (TL pos (x++tail))=true:=by
  have har:=hst.arrow
  rw[hT];unfold Thk.zX
  simp only[Thk.hd,List.headD_cons,List.tail_cons] at har ⊢
  cases hk:t.kind with
  | name=>
   simp only[]
   have h0:(Thk.hd (TL (pos+x.length) tail)).kind.isArrow=false:=by
    cases hq:(Thk.hd (TL (pos+x.length) tail)).kind with
    | arrow=>exact absurd hq har
    | _=>rfl
   simp only[Thk.hd] at h0
   simp only[h0,Bool.and_false,Bool.not_false]
  | sign c=>by_cases hc:c=46<;>simp_all [Thk.zU]
  | lit=>rfl
  | cls=>rfl
  | fin=>simp[hk,Thk.TK.last] at hl
  | bad=>simp[hk,Thk.TK.last] at hl
  | arrow=>simp[hk,Thk.zU] at hp
 refine⟨hbg,?_⟩
 have h3:=Thk.QF.ok (d:=d) (ts:=TL pos (x++tail)) (p:=p) (rest:=TL (pos+x.length) tail) (by
  rw[ha,hT];exact .plain hpp)
 rw[ha,hst.behind] at h3
 exact h3
abbrev nmS:List UInt8:=[115]
abbrev zbT:List UInt8:=[110,117,109]
abbrev zbU:List UInt8:=[119,111,114,100]
abbrev K2:List (List UInt8):=[nmS,zbT,zbU]
abbrev zkf:List (List UInt8):=[zbT,zbU]
def Gx (x:List UInt8) (e:Bool) (dep:Nat):Prop:=
 ∃ c:Thk.Z5,Px x dep c∧Thk.zx (zv zkf) c=false ∧
  ∀ E:List UInt8→Bool,E zbT=false→E zbU=false→Thk.Zl E c=e∧Thk.zx (zJ E) c=false∧∀ b ∈ Thk.ZC E c,b=zbT∨b=zbU
def zO:List (List UInt8):=[[39,97,39],[39,98,39],[39,97,98,39],[91,97,45,99,93],[46],zbT,zbU,[91,48,45,57,92,45,120,93],[39,92,39,39],[40,41]]
theorem qp {x:List UInt8} {t:Thk.Tok} {p:Thk.zC} (h:∀ tail,Thk.ZQ tail=0→Thk.blk false (x++tail)=0∧Thk.zM (x++tail)=t) (hl:t.kind.last=false) (hs:t.size=x.length) (hp:Thk.zU t=some p)
  (hq:p = .name zbT∨p = .name zbU∨(∃ b,p = .lit b)∨(∃ b,p = .cls b)∨p = .any):Gx x false 0:=by
 refine⟨_,zkO h hl hs hp,?_,?_⟩
 ·rcases hq with rfl | rfl | ⟨b,rfl⟩ | ⟨b,rfl⟩ | rfl<;>simp[Thk.zx,Thk.Zc,Thk.ZG,Thk.Zi,zv,Thk.Term.piece]
 ·intro E h1 h2
  rcases hq with rfl | rfl | ⟨b,rfl⟩ | ⟨b,rfl⟩ | rfl<;>simp[Thk.Zl,Thk.ZH,Thk.Zu,Thk.Ze,Thk.zx,Thk.Zc,Thk.ZG,Thk.Zi,zJ,Thk.Term.piece,Thk.Term.behind,Thk.ZC,Thk.Q2,Thk.JR,Thk.Zy,h1,h2]
theorem zkj (a:UInt8) (h1:a≠92) (h2:a≠10) (h3:a≠39):Gx [39,a,39] false 0:=by
 refine qp (t:=⟨.lit,0,3,[a],[]⟩) (p:=.lit [a]) ?_ rfl rfl rfl (.inr (.inr (.inl ⟨_,rfl⟩)))
 intro tail _
 refine⟨qo _ _ (by decide) (by decide),?_⟩
 simp[Thk.zM,Thk.Qu,Thk.Qv,Thk.Qc,Thk.Yk,Thk.Zh,Thk.ZX,h1,h2,h3]
theorem zki (k:Nat) (hk:k<9):Gx (zO.getD k []) false 0:=by
 have:k=0∨k=1∨k=2∨k=3∨k=4∨k=5∨k=6∨k=7∨k=8:=by omega
 rcases this with rfl | rfl | rfl | rfl | rfl | rfl | rfl | rfl | rfl
 ·exact zkj 97 (by decide) (by decide) (by decide)
 ·exact zkj 98 (by decide) (by decide) (by decide)
 ·refine qp (t:=⟨.lit,0,4,[97,98],[]⟩) (p:=.lit [97,98]) ?_ rfl rfl rfl (.inr (.inr (.inl ⟨_,rfl⟩)))
  intro tail _
  refine⟨qo _ _ (by decide) (by decide),?_⟩
  simp[zO,Thk.zM,Thk.Qu,Thk.Qv,Thk.Qc,Thk.Yk,Thk.Zh,Thk.ZX]
 ·refine qp (t:=⟨.cls,0,5,[],[(97,99)]⟩) (p:=.cls [(97,99)]) ?_ rfl rfl rfl (.inr (.inr (.inr (.inl ⟨_,rfl⟩))))
  intro tail _
  refine⟨qo _ _ (by decide) (by decide),?_⟩
  simp[zO,Thk.zM,Thk.Qu,Thk.QB,Thk.QL,Thk.Yo,Thk.ZT,Thk.Zh,Thk.ZX]
 ·refine qp (t:=⟨.sign 46,0,1,[],[]⟩) (p:=.any) ?_ rfl rfl rfl (.inr (.inr (.inr (.inr rfl))))
  intro tail _
  exact⟨qo _ _ (by decide) (by decide),by simp[zO,Thk.zM,Thk.Qu,Thk.Qf]⟩
 ·refine qp (t:=⟨.name,0,3,zbT,[]⟩) (p:=.name zbT) ?_ rfl rfl rfl (.inl rfl)
  intro tail ht
  refine⟨qo _ _ (by decide) (by decide),?_⟩
  simp[zO,Thk.zM,Thk.Qu,Thk.Ql,Thk.ZQ,ht]
 ·refine qp (t:=⟨.name,0,4,zbU,[]⟩) (p:=.name zbU) ?_ rfl rfl rfl (.inr (.inl rfl))
  intro tail ht
  refine⟨qo _ _ (by decide) (by decide),?_⟩
  simp[zO,Thk.zM,Thk.Qu,Thk.Ql,Thk.ZQ,ht]
 ·refine qp (t:=⟨.cls,0,8,[],[(48,57),(45,45),(120,120)]⟩) (p:=.cls [(48,57),(45,45),(120,120)]) ?_ rfl rfl rfl (.inr (.inr (.inr (.inl ⟨_,rfl⟩))))
  intro tail _
  refine⟨qo _ _ (by decide) (by decide),?_⟩
  simp[zO,Thk.zM,Thk.Qu,Thk.QB,Thk.QL,Thk.Yo,Thk.ZT,Thk.Zh,Thk.YP,Thk.ZX]
 ·refine qp (t:=⟨.lit,0,4,[39],[]⟩) (p:=.lit [39]) ?_ rfl rfl rfl (.inr (.inr (.inl ⟨_,rfl⟩)))
  intro tail _
  refine⟨qo _ _ (by decide) (by decide),?_⟩
  simp[zO,Thk.zM,Thk.Qu,Thk.Qv,Thk.Qc,Thk.Yk,Thk.Zh,Thk.YP,Thk.ZX]
theorem zkM:Px [] 0 [[]]:=fun _ _ _ _ hs=>.last (.nil hs.none) hs.slash
theorem zkF:Gx [40,41] true 1:=by
 refine⟨_,zkL (b:=[]) (by simp[z4]) zkM,?_,?_⟩
 ·simp[Thk.zx,Thk.Zc,Thk.ZG,Thk.Zi,zv,Thk.Term.piece]
 ·intro E _ _
  simp[Thk.Zl,Thk.ZH,Thk.Zu,Thk.Ze,Thk.zx,Thk.Zc,Thk.ZG,Thk.Zi,zJ,Thk.Term.piece,Thk.Term.behind,Thk.ZC,Thk.Q2,Thk.JR,Thk.Zy]
theorem zkG {b x b' y:List UInt8} {e e':Bool} {d1 d2:Nat} (hb:b ∈ z4) (hb':b' ∈ z4) (hx:Gx x e d1) (hy:Gx y e' d2):Gx (brk b x++[47]++brk b' y) (e || e') (max (d1+1) (d2+1)):=by
 obtain⟨c,h1,h2,h3⟩:=hx
 obtain⟨c',h1',h2',h3'⟩:=hy
 refine⟨_,zkN hb hb' h1 h1',?_,?_⟩
 ·simp[Thk.zx,Thk.Zc,Thk.ZG,Thk.Zi,zv,Thk.Term.piece] at h2 h2' ⊢
  exact⟨h2,h2'⟩
 ·intro E hE hF
  obtain⟨q1,q2,q3⟩:=h3 E hE hF
  obtain⟨r1,r2,r3⟩:=h3' E hE hF
  refine⟨?_,?_,?_⟩
  ·simp[Thk.Zl,Thk.ZH,Thk.Zu,Thk.Ze,q1,r1]
  ·simp[Thk.zx,Thk.Zc,Thk.ZG,Thk.Zi,zJ,Thk.Term.piece,Thk.Term.behind] at q2 r2 ⊢
   exact⟨q2,r2⟩
  ·intro b hb
   simp[Thk.ZC,Thk.Q2,Thk.JR,Thk.Zy] at hb
   rcases hb with hb | hb
   ·exact q3 b hb
   ·exact r3 b hb
theorem zkD {b x b' y:List UInt8} {e e':Bool} {d1 d2:Nat} (hb:b ∈ z4) (hb':b' ∈ z4) (hx:Gx x e d1) (hy:Gx y e' d2):Gx (brk b x++[32]++brk b' y) (e && e') (max (d1+1) (d2+1)):=by
 obtain⟨c,h1,h2,h3⟩:=hx
 obtain⟨c',h1',h2',h3'⟩:=hy
 refine⟨_,zkJ hb hb' h1 h1',?_,?_⟩
 ·simp[Thk.zx,Thk.Zc,Thk.ZG,Thk.Zi,zv,Thk.Term.piece] at h2 h2' ⊢
  exact⟨h2,h2'⟩
 ·intro E hE hF
  obtain⟨q1,q2,q3⟩:=h3 E hE hF
  obtain⟨r1,r2,r3⟩:=h3' E hE hF
  refine⟨?_,?_,?_⟩
  ·simp[Thk.Zl,Thk.ZH,Thk.Zu,Thk.Ze,q1,r1]
  ·simp[Thk.zx,Thk.Zc,Thk.ZG,Thk.Zi,zJ,Thk.Term.piece,Thk.Term.behind] at q2 r2 ⊢
   exact⟨q2,r2⟩
  ·intro b hb
   simp[Thk.ZC,Thk.Q2,Thk.JR,Thk.Zy] at hb
   rcases hb with hb | ⟨_,hb⟩
   ·exact q3 b hb
   ·exact r3 b hb
theorem zkk {x:List UInt8} {e e1:Bool} {d1 d2:Nat} {a k:UInt8} {c:Thk.Z5} (hP:Px x d2 [[.mk a (.group c) k]]) (h2:Thk.zx (zv zkf) c=false)
  (h3:∀ E:List UInt8→Bool,E zbT=false→E zbU=false→Thk.Zl E c=e∧Thk.zx (zJ E) c=false∧∀ b ∈ Thk.ZC E c,b=zbT∨b=zbU)
  (hl:e=true→k≠42∧k≠43) (he:((a != 0 || k == 63 || k == 42) || e)=e1):Gx x e1 d2:=by
 refine⟨_,hP,?_,?_⟩
 ·simp[Thk.zx,Thk.Zc,Thk.ZG,Thk.Zi,zv,Thk.Term.piece] at h2 ⊢
  exact h2
 ·intro E hE hF
  obtain⟨q1,q2,q3⟩:=h3 E hE hF
  refine⟨?_,?_,?_⟩
  ·simp[Thk.Zl,Thk.ZH,Thk.Zu,Thk.Ze,q1] at he ⊢;exact he
  ·simp only[Thk.zx,Thk.Zc,Thk.ZG,Thk.Zi,Bool.or_false,q2]
   simp only[zJ,Thk.Term.piece,Thk.Term.behind,Thk.Ze,q1]
   cases e with
   | false=>simp
   | true=>obtain⟨g1,g2⟩:=hl rfl;simp[g1,g2]
  ·intro b hb
   simp[Thk.ZC,Thk.Q2,Thk.JR,Thk.Zy] at hb
   exact q3 b hb
theorem zkE {b x:List UInt8} {e:Bool} {d1:Nat} (k:UInt8) (hk:k=63∨k=42∨k=43) (hb:b ∈ z4) (hx:Gx x e d1) (hl:e=true→k=63):Gx (brk b x++[k]) (k != 43) (d1+1):=by
 obtain⟨c,h1,h2,h3⟩:=hx
 refine zkk (d1:=d1) (zkK k hk hb h1) h2 h3 ?_ ?_
 ·intro h;rw[hl h];decide
 ·rcases hk with rfl | rfl | rfl
  ·simp
  ·simp
  ·cases e with
   | false=>simp
   | true=>exact absurd (hl rfl) (by decide)
theorem zkC {b x:List UInt8} {e:Bool} {d1:Nat} (k:UInt8) (hk:k=38∨k=33) (hb:b ∈ z4) (hx:Gx x e d1):Gx (k::brk b x) true (d1+1):=by
 obtain⟨c,h1,h2,h3⟩:=hx
 refine zkk (d1:=d1) (zkI k hk hb h1) h2 h3 ?_ ?_
 ·intro _;decide
 ·rcases hk with rfl | rfl<;>simp
theorem Zo.err {l:List UInt8} {res:Except (Nat × Nat) (List Thk.ze × List Bool)} {x:Nat × Nat} (h:Zo l res) (hl:l.length≤2000) (hg:Thk.ZU 0 (Thk.Qn l) (.error x)):res = .error x:=by
 cases h with
 | text h=>
  cases h with
  | long h=>omega
  | read _ h=>have:=hg.det h;cases this;rfl
 | rules h _=>
  cases h with
  | read _ h=>have:=hg.det h;cases this
 | ok h _=>
  cases h with
  | read _ h=>have:=hg.det h;cases this
theorem Zo.fine {l:List UInt8} {res:Except (Nat × Nat) (List Thk.ze × List Bool)} {g:List Thk.ze} (h:Zo l res) (hl:l.length≤2000) (hg:Thk.ZU 0 (Thk.Qn l) (.ok g)) (hn:∀ x,¬ Qh g (.error x)):∃ y,res = .ok y:=by
 cases h with
 | text h=>
  cases h with
  | long h=>omega
  | read _ h=>have:=hg.det h;cases this
 | rules h h'=>
  cases h with
  | read _ h=>have:=hg.det h;cases this;exact absurd h' (hn _)
 | ok h _=>exact⟨_,rfl⟩
mutual
theorem zls {f h:Thk.Term→Bool} (H:∀ t,f t=false→h t=false):∀ p:Thk.zC,Thk.Zi f p=false→Thk.Zi h p=false
 | .group c,e=>by simp only[Thk.Zi] at e ⊢;exact zkh H c e
 | .name _,_=>by simp[Thk.Zi]
 | .lit _,_=>by simp[Thk.Zi]
 | .cls _,_=>by simp[Thk.Zi]
 | .any,_=>by simp[Thk.Zi]
theorem zlt {f h:Thk.Term→Bool} (H:∀ t,f t=false→h t=false):∀ t:Thk.Term,Thk.ZG f t=false→Thk.ZG h t=false
 | .mk a p b,e=>by
  simp only[Thk.ZG,Bool.or_eq_false_iff] at e ⊢
  exact⟨H _ e.1,zls H p e.2⟩
theorem zky {f h:Thk.Term→Bool} (H:∀ t,f t=false→h t=false):∀ s:List Thk.Term,Thk.Zc f s=false→Thk.Zc h s=false
 | [],_=>by simp[Thk.Zc]
 | t::s,e=>by
  simp only[Thk.Zc,Bool.or_eq_false_iff] at e ⊢
  exact⟨zlt H t e.1,zky H s e.2⟩
theorem zkh {f h:Thk.Term→Bool} (H:∀ t,f t=false→h t=false):∀ c:List (List Thk.Term),Thk.zx f c=false→Thk.zx h c=false
 | [],_=>by simp[Thk.zx]
 | s::c,e=>by
  simp only[Thk.zx,Bool.or_eq_false_iff] at e ⊢
  exact⟨zky H s e.1,zkh H c e.2⟩
end
theorem zlz {c:Thk.Z5} (h:Thk.zx (zv zkf) c=false):Thk.zx (zv K2) c=false:=zkh (fun t e=>by
 cases t with
 | mk a p b=>
  cases p<;>simp[zv,Thk.Term.piece] at e ⊢
  exact fun _=>e) c h
abbrev hdB:List UInt8:=[115,32,60,45,32]
theorem zkQ (rest:List UInt8):TL 0 (hdB++rest)=⟨.name,0,1,nmS,[]⟩::⟨.arrow,2,2,[],[]⟩::TL 5 rest:=by
 have h1:=zk3 [115] ([32,60,45,32]++rest) 0 ⟨.name,0,1,nmS,[]⟩ (by simp[Thk.blk,Thk.Y9]) (by simp[Thk.zM,Thk.Qu,Thk.Ql,Thk.ZQ]) rfl rfl
 have h2:=zka 32 ([60,45,32]++rest) 1 (by decide)
 have h3:=zk3 [60,45] (32::rest) 2 ⟨.arrow,0,2,[],[]⟩ (by simp[Thk.blk,Thk.Y9]) (by simp[Thk.zM,Thk.Qu]) rfl rfl
 have h4:=zka 32 rest 4 (by decide)
 simp only[List.cons_append,List.nil_append,List.length_cons,List.length_nil] at h1 h2 h3 h4 ⊢
 rw[h1,h2,h3,h4]
theorem zri {rest:List UInt8} {e p:Nat} (h:Thk.Z8 0 (TL 5 rest) (.err e p)):Thk.ZU 0 (Thk.Qn (hdB++rest)) (.error (e,p)):=by
 rw[YZ,zkQ]
 exact .err (.err rfl rfl (by decide) h)
theorem zrl {x:List UInt8} {dep:Nat} {c:Thk.Z5} (hx:Px x dep c) (hd:dep≤4):Thk.ZU 0 (Thk.Qn (hdB++(40::brk [] x))) (.error (2,x.length+8)):=by
 apply zri
 have hfin:=zqN (6+(brk [] x).length)
 obtain⟨h1,h2⟩:=zjY (b:=[]) (by simp[z4]) hx 1 6 [] (by omega) (by rw[hfin];rfl)
 rw[List.append_nil] at h1 h2
 have h3:Thk.Z8 1 (TL 6 (brk [] x)) (.ok [[.mk 0 (.group c) 0]] (TL (6+(brk [] x).length) [])):=.last (.cons h1 h2 (.nil (by rw[hfin];rfl))) (by rw[hfin];simp[Thk.hd])
 have h4:=Thk.Qi.unclosed (d:=0) (ts:=⟨.sign 40,5,1,[],[]⟩::TL 6 (brk [] x)) rfl (by decide) h3 (by rw[hfin];simp[Thk.hd])
 rw[hfin] at h4
 have e:(Thk.hd [(⟨.fin,6+(brk [] x).length,0,[],[]⟩:Thk.Tok)]).place=x.length+8:=by rw[zjN];simp[Thk.hd];omega
 rw[e] at h4
 rw[qt 40 _ _ (by decide)]
 exact .err (.err rfl (.err h4))
theorem zrh {x:List UInt8} {dep:Nat} {c:Thk.Z5} (hx:Px x dep c) (hd:dep≤4) {tail:List UInt8} (hs:Stop 0 (5+(brk [] x).length) tail):Thk.Z8 0 (TL 5 (brk [] x++tail)) (.ok [[.mk 0 (.group c) 0]] (TL (5+(brk [] x).length) tail)):=by
 obtain⟨h1,h2⟩:=zjY (b:=[]) (by simp[z4]) hx 0 5 tail (by omega) hs.behind
 exact .last (.cons h1 h2 (.nil hs.none)) hs.slash
theorem zrn {x:List UInt8} {dep:Nat} {c:Thk.Z5} (hx:Px x dep c) (hd:dep≤4):Thk.ZU 0 (Thk.Qn (hdB++(brk [] x++[32,41]))) (.error (2,x.length+8)):=by
 have h1:=zrh hx hd (tail:=[32,41]) (zlu 0 _ [32] [] (by simp[z4]))
 have hr:TL (5+(brk [] x).length) [32,41]=[⟨.sign 41,x.length+8,1,[],[]⟩,⟨.fin,x.length+9,0,[],[]⟩]:=by
  rw[zka 32 _ _ (by decide),qt 41 _ _ (by decide),zqN,zjN];simp;omega
 rw[YZ,zkQ]
 rw[hr] at h1
 refine .later (.ok rfl rfl (by decide) h1) (by simp[Thk.hd]) ?_
 exact .err (.noName (by simp[Thk.hd]))
theorem zro {x:List UInt8} {dep:Nat} {c:Thk.Z5} (hx:Px x dep c) (hd:dep≤4) (p q:UInt8) (hp:p=38∨p=33) (hq:q=42∨q=63∨q=43∨q=47∨q=38):Thk.ZU 0 (Thk.Qn (hdB++(brk [] x++[32,p,q]))) (.error (2,x.length+9)):=by
 apply zri
 have hr:TL (5+(brk [] x).length) [32,p,q]=[⟨.sign p,x.length+8,1,[],[]⟩,⟨.sign q,x.length+9,1,[],[]⟩,⟨.fin,x.length+10,0,[],[]⟩]:=by
  rw[zka 32 _ _ (by decide),qt p _ _ (by rcases hp with rfl | rfl<;>decide),qt q _ _ (by rcases hq with rfl | rfl | rfl | rfl | rfl<;>decide),zqN,zjN];simp;omega
 obtain⟨h1,h2⟩:=zjY (b:=[]) (by simp[z4]) hx 0 5 [32,p,q] (by omega) (by rw[hr];rcases hp with rfl | rfl<;>rfl)
 rw[hr] at h2
 refine .err (.later h1 h2 (.err ?_ (.err ?_)))
 ·rcases hp with rfl | rfl<;>rfl
 ·have e:(Thk.Z9 [(⟨.sign p,x.length+8,1,[],[]⟩:Thk.Tok),⟨.sign q,x.length+9,1,[],[]⟩,⟨.fin,x.length+10,0,[],[]⟩]).2=[⟨.sign q,x.length+9,1,[],[]⟩,⟨.fin,x.length+10,0,[],[]⟩]:=by
   rcases hp with rfl | rfl<;>rfl
  rw[e]
  refine .bad (ts:=[⟨.sign q,x.length+9,1,[],[]⟩,⟨.fin,x.length+10,0,[],[]⟩]) ?_ ?_
  ·rcases hq with rfl | rfl | rfl | rfl | rfl<;>rfl
  ·rcases hq with rfl | rfl | rfl | rfl | rfl<;>simp[Thk.hd]
abbrev zjP:List UInt8:=[32,110,117,109,32,60,45,32,91,48,45,57,93,32,110,117,109,63,32,119,111,114,100,32,60,45,32,39,97,39,32,119,111,114,100,32,39,98,39,32,47,32,39,99,39,32,39,97,39,63]
def zk0 (pos:Nat):List Thk.Tok:=[⟨.name,pos+1,3,zbT,[]⟩,⟨.arrow,pos+5,2,[],[]⟩,⟨.cls,pos+8,5,[],[(48,57)]⟩,⟨.name,pos+14,3,zbT,[]⟩,⟨.sign 63,pos+17,1,[],[]⟩,
 ⟨.name,pos+19,4,zbU,[]⟩,⟨.arrow,pos+24,2,[],[]⟩,⟨.lit,pos+27,3,[97],[]⟩,⟨.name,pos+31,4,zbU,[]⟩,⟨.lit,pos+36,3,[98],[]⟩,⟨.sign 47,pos+40,1,[],[]⟩,⟨.lit,pos+42,3,[99],[]⟩,⟨.lit,pos+46,3,[97],[]⟩,⟨.sign 63,pos+49,1,[],[]⟩,⟨.fin,pos+50,0,[],[]⟩]
theorem zkm (pos:Nat):TL pos zjP=zk0 pos:=by rfl
theorem zlv (pos:Nat):Stop 0 pos zjP:=by
 refine⟨by decide,?_,?_,?_,?_,?_,?_⟩<;>simp[zkm,zk0,Thk.zX,Thk.hd,Thk.TK.isArrow]
theorem zk1 {d:Nat} {t:Thk.Tok} {ts:List Thk.Tok} {p:Thk.zC} (hp:Thk.zU t=some p) (ha:Thk.Z9 (t::ts)=(0,t::ts)) (hb:Thk.Zg ts=(0,ts)):Thk.QF d (t::ts) (.ok (.mk 0 p 0) ts):=by
 have h:=Thk.QF.ok (d:=d) (ts:=t::ts) (p:=p) (rest:=ts) (by rw[ha];exact .plain hp)
 rw[ha,hb] at h;exact h
theorem zkz {d:Nat} {t:Thk.Tok} {pl:Nat} {ts:List Thk.Tok} {p:Thk.zC} (hp:Thk.zU t=some p) (ha:∀ ts,Thk.Z9 (t::ts)=(0,t::ts)):Thk.QF d (t::⟨.sign 63,pl,1,[],[]⟩::ts) (.ok (.mk 0 p 63) ts):=by
 have h:=Thk.QF.ok (d:=d) (ts:=t::⟨.sign 63,pl,1,[],[]⟩::ts) (p:=p) (rest:=⟨.sign 63,pl,1,[],[]⟩::ts) (by rw[ha];exact .plain hp)
 rw[ha] at h;exact h
abbrev zk6:Thk.ze:=⟨zbT,[[.mk 0 (.cls [(48,57)]) 0,.mk 0 (.name zbT) 63]]⟩
abbrev zjz:Thk.ze:=⟨zbU,[[.mk 0 (.lit [97]) 0,.mk 0 (.name zbU) 0,.mk 0 (.lit [98]) 0],[.mk 0 (.lit [99]) 0,.mk 0 (.lit [97]) 63]]⟩
theorem zlr (pos:Nat):Thk.ZU 1 (zk0 pos) (.ok [zk6,zjz]):=by
 unfold zk0
 refine .more (.ok rfl rfl (by decide) (.last (.cons rfl (zk1 rfl rfl rfl) (.cons rfl (zkz rfl (fun _=>rfl)) (.nil rfl))) (by simp[Thk.hd]))) (by simp[Thk.hd]) (.last (.ok rfl rfl (by decide) (.more (.cons rfl (zk1 rfl rfl rfl) (.cons rfl (zk1 rfl rfl rfl) (.cons rfl (zk1 rfl rfl rfl) (.nil rfl)))) rfl (.last (.cons rfl (zk1 rfl rfl rfl) (.cons rfl (zkz rfl (fun _=>rfl)) (.nil rfl))) (by simp[Thk.hd])))) rfl)
abbrev g3 (c:Thk.Z5):List Thk.ze:=[⟨nmS,[[.mk 0 (.group c) 0]]⟩,zk6,zjz]
theorem zrq {x:List UInt8} {dep:Nat} {c:Thk.Z5} (hx:Px x dep c) (hd:dep≤4):Thk.ZU 0 (Thk.Qn (hdB++(brk [] x++zjP))) (.ok (g3 c)):=by
 rw[YZ,zkQ]
 have h1:=zrh hx hd (zlv _)
 rw[zkm] at h1
 exact .more (.ok rfl rfl (by decide) h1) (by simp[zk0,Thk.hd]) (zlr _)
theorem lt3 {i:Nat} (h:i<3):i=0∨i=1∨i=2:=by omega
theorem Wm3 (M:Mat) (h1:∀ j,M 1 j=false) (h2:∀ j,M 2 j=false) (h0:∀ i,M i 0=false) (i:Nat) (hi:i<3):Wm M 3 i i=false:=by
 rcases lt3 hi with rfl | rfl | rfl<;>simp[Wm,h1,h2,h0]
theorem zkd (names:List Thk.z7) (l:List Thk.z7):∀ (B:List Bool) (j:Nat),(∀ b ∈ l,Up names b≠j)→(ZJ names B l).getD j false=B.getD j false:=by
 induction l with
 | nil=>intro B j _;rfl
 | cons b l ih=>
  intro B j h
  show (ZJ names (B.set (Up names b) true) l).getD j false=_
  rw[ih _ _ (fun x hx=>h x (List.mem_cons_of_mem _ hx))]
  have:=h b (List.mem_cons_self ..)
  simp[List.getD_eq_getElem?_getD,List.getElem?_set,this]
theorem zkx (j:Nat):(List.replicate K2.length false).getD j false=false:=
 match j with
 | 0=>rfl
 | 1=>rfl
 | 2=>rfl
 | _+3=>rfl
theorem zrw {c:Thk.Z5} {e:Bool} (hu:Thk.zx (zv K2) c=false)
  (h3:∀ E:List UInt8→Bool,E zbT=false→E zbU=false→Thk.Zl E c=e∧Thk.zx (zJ E) c=false∧∀ b ∈ Thk.ZC E c,b=zbT∨b=zbU) (x:Nat × Nat):¬ Qh (g3 c) (.error x):=by
 have hn:zg (g3 c)=K2:=rfl
 have hE0:∀ E,QQ K2 (g3 c) E→Eb K2 E zbT=false∧Eb K2 E zbU=false:=by
  intro E hE
  have hc:QP K2 (g3 c) [e,false,false]:=by
   intro i hi
   rcases lt3 hi with rfl | rfl | rfl
   ·intro h
    have:=(h3 (Eb K2 [e,false,false]) rfl rfl).1
    simp[Thk.Zl,Thk.ZH,Thk.Zu,Thk.Ze,this] at h
    simp[h]
   ·intro h;simp[Thk.Zl,Thk.ZH,Thk.Zu,Thk.Ze] at h
   ·intro h;simp[Thk.Zl,Thk.ZH,Thk.Zu,Thk.Ze] at h
  constructor
  ·have:=hE _ hc 1
   show E.getD 1 false=false
   cases h:E.getD 1 false with
   | false=>rfl
   | true=>exact absurd (this h) (by simp)
  ·have:=hE _ hc 2
   show E.getD 2 false=false
   cases h:E.getD 2 false with
   | false=>rfl
   | true=>exact absurd (this h) (by simp)
 intro h
 cases h with
 | twice h=>
  obtain⟨h1,h2,_⟩:=h
  rcases lt3 h1 with rfl | rfl | rfl<;>exact absurd h2 (by rw[hn];decide)
 | unknown _ h=>
  obtain⟨h1,h2,_⟩:=h
  rw[hn] at h2
  rcases lt3 h1 with rfl | rfl | rfl
  ·simp[Thk.zx,Thk.Zc,Thk.ZG,Thk.Zi,zv,Thk.Term.piece] at h2 hu
   rw[hu] at h2;cases h2
  ·simp[Thk.zx,Thk.Zc,Thk.ZG,Thk.Zi,zv,Thk.Term.piece] at h2
  ·simp[Thk.zx,Thk.Zc,Thk.ZG,Thk.Zi,zv,Thk.Term.piece] at h2
 | loop _ _ _ _ hl h=>
  rw[hn] at hl h
  obtain⟨h1,h2,_⟩:=h
  obtain⟨q1,q2⟩:=hE0 _ hl
  obtain⟨_,q3,_⟩:=h3 _ q1 q2
  rcases lt3 h1 with rfl | rfl | rfl
  ·simp only[List.getElem_cons_zero,Thk.zx,Thk.Zc,Thk.ZG,Thk.Zi,q3] at h2
   simp[zJ,Thk.Term.piece,Thk.Term.behind] at h2
  ·simp[Thk.zx,Thk.Zc,Thk.ZG,Thk.Zi,zJ,Thk.Term.piece,Thk.Term.behind] at h2
  ·simp[Thk.zx,Thk.Zc,Thk.ZG,Thk.Zi,zJ,Thk.Term.piece,Thk.Term.behind] at h2
 | left a1 a2 a3 a4 hl a6 h=>
  rename_i E i
  rw[hn] at hl h
  obtain⟨h1,h2,_⟩:=h
  obtain⟨q1,q2⟩:=hE0 _ hl
  obtain⟨_,_,q3⟩:=h3 _ q1 q2
  have r1:∀ j,Za K2 E (g3 c) 1 j=false:=by
   intro j
   show (ZJ K2 _ (Thk.ZC (Eb K2 E) zk6.choice)).getD j false=false
   rw[zkd _ _ _ _ (by simp[Thk.ZC,Thk.Q2,Thk.JR,Thk.Zy,Thk.Zu,Thk.Ze])]
   exact zkx j
  have r2:∀ j,Za K2 E (g3 c) 2 j=false:=by
   intro j
   show (ZJ K2 _ (Thk.ZC (Eb K2 E) zjz.choice)).getD j false=false
   rw[zkd _ _ _ _ (by simp[Thk.ZC,Thk.Q2,Thk.JR,Thk.Zy,Thk.Zu,Thk.Ze])]
   exact zkx j
  have r0:∀ i,Za K2 E (g3 c) i 0=false:=by
   intro i
   match i with
   | 1=>exact r1 0
   | 2=>exact r2 0
   | 0=>
    show (ZJ K2 _ (Thk.ZC (Eb K2 E) [[.mk 0 (.group c) 0]])).getD 0 false=false
    rw[zkd]
    ·rfl
    ·intro b hb
     simp[Thk.ZC,Thk.Q2,Thk.JR,Thk.Zy] at hb
     rcases q3 b hb with rfl | rfl<;>decide
   | n+3=>rfl
  have:=Wm3 _ r1 r2 r0 i h1
  rw[show (g3 c).length=3 from rfl] at h2
  rw[this] at h2;cases h2
theorem Gx_a {x:List UInt8} {e:Bool} {dep:Nat} (hx:Gx x e dep) (hd:dep≤4) (hl:x.length≤1000) {res:Except (Nat × Nat) (List Thk.ze × List Bool)} (h:Zo (hdB++(40::brk [] x)) res):res = .error (2,x.length+8):=by
 obtain⟨c,hc,_⟩:=hx
 exact h.err (by simp[zjN];omega) (zrl hc hd)
theorem Gx_b {x:List UInt8} {e:Bool} {dep:Nat} (hx:Gx x e dep) (hd:dep≤4) (hl:x.length≤1000) {res:Except (Nat × Nat) (List Thk.ze × List Bool)} (h:Zo (hdB++(brk [] x++[32,41])) res):res = .error (2,x.length+8):=by
 obtain⟨c,hc,_⟩:=hx
 exact h.err (by simp[zjN];omega) (zrn hc hd)
theorem Gx_c {x:List UInt8} {e:Bool} {dep:Nat} (hx:Gx x e dep) (hd:dep≤4) (hl:x.length≤1000) {p q:UInt8} (hp:p=38∨p=33) (hq:q=42∨q=63∨q=43∨q=47∨q=38) {res:Except (Nat × Nat) (List Thk.ze × List Bool)} (h:Zo (hdB++(brk [] x++[32,p,q])) res):res = .error (2,x.length+9):=by
 obtain⟨c,hc,_⟩:=hx
 exact h.err (by simp[zjN];omega) (zro hc hd p q hp hq)
theorem Gx_d {x:List UInt8} {e:Bool} {dep:Nat} (hx:Gx x e dep) (hd:dep≤4) (hl:x.length≤1000) {res:Except (Nat × Nat) (List Thk.ze × List Bool)} (h:Zo (hdB++(brk [] x++zjP)) res):∃ y,res = .ok y:=by
 obtain⟨c,hc,hu,h3⟩:=hx
 exact h.fine (by simp[zjN];omega) (zrq hc hd) (zrw (zlz hu) h3)
end Go.Proofs.YtiganlkabilblaaDoor
