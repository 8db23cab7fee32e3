import Derived.Test.YtiganlkabilblaaGreatDoorV00
import Derived.Deep.QuietTactic
import Derived.BigQuiet
import Derived.RegionTactic
import Derived.BigRegion
set_option linter.all false
set_option maxHeartbeats 64000000
set_option maxRecDepth 100000
namespace Go.Proofs.YtiganlkabilblaaGreatDoor
open Tryz
open Tryz renaming prog->P
open Option renaming some->S,none->N
open Value renaming int->I
open IntKind renaming i64->J
section
open Go.RowKit
theorem infoTok:(prog.info? 237).map (λi=>(i.zero,i.size,i.bytes))=S (S (.agg #[I .u8 0,I J 0,.string ⟨#[]⟩,.slice N 0 0]),4,56):=by kernel_rfl
theorem zbi{l:List UInt8}{n:Nat}{m:UInt8}{k:Nat}(h:ZX l n m k=true):n<l.length:=by unfold ZX at h;simp only[Bool.and_eq_true,beq_iff_eq]at h;exact(List.getElem?_eq_some_iff.1 h.1.1).1
theorem Kl(l:List UInt8)(h:(zM l).kind.last=false):1<=(zM l).size/\(zM l).size<=l.length:=by
 cases l with
 |nil=>simp[zM,TK.last]at h
 |cons c t=>
  simp only[zM]at h|-;split
  ·rename_i f;rw[if_pos f]at h;unfold Ql at h|-;split;·rename_i b;rw[if_pos b]at h;cases h
   ·have:=za8 (c::t);have:ZQ (c::t)=ZQ t+1:=by simp[ZQ,f]
    simp only[];omega
  ·rename_i f;rw[if_neg f]at h;split
   ·rename_i b;simp only[List.length_cons];cases t with
    |nil=>simp at b|cons d t=>simp
   ·rename_i b;rw[if_neg b]at h;split
    ·rename_i g;rw[if_pos g]at h;unfold Qv at h|-;split;·rename_i a;have:=zbi a;simp only[List.length_cons];omega
     ·rename_i a;rw[if_neg a]at h;cases h
    ·rename_i g;rw[if_neg g]at h;split
     ·rename_i a;rw[if_pos a]at h;unfold QB at h|-;split;·rename_i e;have:=zbi e;simp only[List.length_cons];omega
      ·rename_i e;rw[if_neg e]at h;cases h
     ·rename_i a;rw[if_neg a]at h;split;·simp
      ·rename_i e;rw[if_neg e]at h;cases h
def zG(a:Nat)(l:List UInt8):Tok:={zM (l.drop (blk false l))with place:=a+blk false l}
theorem qe(f a:Nat)(l:List UInt8):QC (f+1) a l=zG a l::(if (zG a l).kind.last then[]else QC f ((zG a l).place+(zG a l).size) (l.drop (blk false l+(zG a l).size))):=by simp only[QC,zG,List.drop_drop];rfl
theorem zdb:∀(f g a:Nat) (l:List UInt8),l.length<f->l.length<g->QC f a l=QC g a l
 |0,_,_,_,h,_=>by omega
 |_+1,0,_,_,_,h=>by omega
 |f+1,g+1,a,l,i,j=>by
  rw[qe,qe];cases b:(zG a l).kind.last with
  |true=>rfl|false=>have c:=Kl (l.drop (blk false l)) b;have d:=Kb false l;rw[List.length_drop]at c;have hd:(l.drop (blk false l+(zG a l).size)).length=l.length-(blk false l+(zG a l).size):=List.length_drop;have e:(zG a l).size=(zM (l.drop (blk false l))).size:=rfl;simp only[Bool.false_eq_true,if_false];rw[zdb f g _ _ (by omega) (by omega)]
def TL(a:Nat)(l:List UInt8):List Tok:=QC (l.length+1) a l
theorem K9(a:Nat)(l:List UInt8):TL a l=zG a l::(if (zG a l).kind.last then[]else TL ((zG a l).place+(zG a l).size) (l.drop (blk false l+(zG a l).size))):=by
 unfold TL;rw[qe];cases b:(zG a l).kind.last with
 |true=>rfl|false=>have c:=Kl (l.drop (blk false l)) b;have d:=Kb false l;rw[List.length_drop]at c;have hd:(l.drop (blk false l+(zG a l).size)).length=l.length-(blk false l+(zG a l).size):=List.length_drop;have e:(zG a l).size=(zM (l.drop (blk false l))).size:=rfl;simp only[Bool.false_eq_true,if_false];rw[zdb l.length _ _ _ (by omega) (Nat.lt_succ_self _)]
theorem YZ(l:List UInt8):Qn l=TL 0 l:=rfl
def YI(p:Tok×Value):List Value:=[I .u8 (zt p.1.kind),I J p.1.place,.string ⟨p.1.text.toArray⟩,p.2]
def YN(w:World)(B:Nat)(v:Value)(a:List (Tok×Value)):Prop:=w.ownsRow B 237 4 v a.length (a.flatMap YI)/\∀p∈a,Qr w B p.2 p.1.spans
theorem YN.below{w w':World}{B:Nat}{v:Value}{b:List (Tok×Value)}(h:YN w B v b)(a:Below w.heap.size w w'):YN w' B v b:=⟨Zv h.1 a,λp c=>Zv (h.2 p c) a⟩
def U1(s:ByteArray)(B:Nat)(b:World)(j:Nat)(a:List (Tok×Value))(v:Value)(wr:World):Prop:=j<=s.size/\a.length<=j/\YN wr B v a/\Below B b wr/\B<=wr.heap.size/\(∀p∈a,p.1.kind.last=false)/\Qn s.data.toList=a.map (·.1)++TL j (s.data.toList.drop j)
theorem zd9(s:ByteArray)(j:Nat):zG j (s.data.toList.drop j)={zM (s.data.toList.drop (j+blk false (s.data.toList.drop j)))with place:=j+blk false (s.data.toList.drop j)}:=by unfold zG;rw[List.drop_drop]
theorem zed(w:World)(x y z u:Value)(t:TypeId):∀j q,[x,y,z,u][j]?=S q->(w.alloc (.cells #[x,y,z,u] t)).cell? ((⟨w.heap.size,0,N⟩:Addr).add j)=S q:=by
 intro j q a;match j,a with
 |0,a=>simp at a;subst a;simp[Addr.add]|1,a=>simp at a;subst a;simp[Addr.add]|2,a=>simp at a;subst a;simp[Addr.add]|3,a=>simp at a;subst a;simp[Addr.add]
theorem zgG(l:List UInt8):(Ql l).kind=.bad\/(Ql l).kind=.name:=by unfold Ql;split<;>simp[zB]
theorem zfT(l:List UInt8):(Qv l).kind=.bad\/(Qv l).kind=.lit:=by unfold Qv;split<;>simp[zB]
theorem zeu(l:List UInt8):(QB l).kind=.bad\/(QB l).kind=.cls:=by unfold QB;split<;>simp[zB]
def Qm:TK->Prop
 | .sign c=>Qf c=true
 |_=>True
theorem qa(l:List UInt8):Qm (zM l).kind:=by
 cases l with
 |nil=>simp[zM,Qm]
 |cons c t=>
  simp only[zM];split;·rcases zgG (c::t)with h|h<;>simp[h,Qm]
  ·split;·simp[Qm]
   ·split;·rcases zfT t with h|h<;>simp[h,Qm]
    ·split;·rcases zeu t with h|h<;>simp[h,Qm]
     ·split;·assumption
      ·simp[zB,Qm]
theorem KW{c:UInt8}(h:Qf c=true):33<=c.toNat:=by simp[Qf]at h;rcases h with rfl|rfl|rfl|rfl|rfl|rfl|rfl|rfl|rfl<;>decide
theorem zfF{k:TK}(a:Qm k):(k.last=true/\(zt k=0\/zt k=1))\/(k.last=false/\(zt k==0)=false/\(zt k==1)=false):=by
 cases k with
 |fin=>left;simp[TK.last,zt]|bad=>left;simp[TK.last,zt]|sign c=>right;have:=KW a;refine⟨rfl,beq_eq_false_iff_ne.2 ?_,beq_eq_false_iff_ne.2 ?_⟩<;>simp only[zt]<;>omega|_=>right;simp[TK.last,zt]
theorem U1.push{s:ByteArray}{B:Nat}{A:World}{j:Nat}{d:List (Tok×Value)}{v:Value}{wr:World}(h:U1 s B A j d v wr){T:Tok}{sv:Value}{f b:World}{z:Value}(c:Below wr.heap.size wr f)(K:Qr f wr.heap.size sv T.spans){i k:Obj}(H:b.ownsRow B 237 4 z (d.length+1) (d.flatMap YI++YI (T,sv)))(o:((f.alloc i).alloc k).grownBy b v.ownBlock):YN b B z (d++[(T,sv)])/\Below B A b/\B<=b.heap.size:=by
 obtain⟨U,V,l,D,w,W⟩:=h;have J:=o.size;have X:=c.size;simp at J;have x:∀{e:TypeId} {r:Nat} {u:Value} {n:Nat} {t:List Value},f.ownsRow B e r u n t->e≠237->b.ownsRow B e r u n t:=by
  intro e r u n t y F;refine((y.alloc i).alloc k).kept o ?_;rcases y.2 with⟨rfl,_⟩|⟨g,L,N,rfl,_,E,_⟩;·left;rfl
  ·right;intro q;rcases(Zv l.1 c).2 with⟨rfl,_⟩|⟨R,M,O,rfl,_,m,_⟩;·simp[Value.ownBlock]at q
   ·simp[Value.ownBlock]at q;subst q;rw[E]at m;simp at m;exact F m.2
 refine⟨⟨by simpa using H,?_⟩,?_,by omega⟩
 ·intro p a;rcases List.mem_append.1 a with a|a;·exact x (Zv (l.2 p a) c) (by decide)
  ·simp at a;subst a;exact x (Zn K w) (by decide)
 ·exact(((D.trans (c.mono w)).alloc (by omega) i).alloc (by simp;omega) k).grown o (by simp;omega) (λg G=>(l.1.lt g G).1)
theorem zex(s:ByteArray)(w:World)(hs:s.size<=2000):Calls P 85 #[.string s] w λe R=>∃a c b,e=.returned (.slice (S a) (Qn s.data.toList).length c)/\Below w.heap.size w R/\b.map (·.1)=Qn s.data.toList/\YN R w.heap.size (.slice (S a) (Qn s.data.toList).length c) b:=by
 obtain⟨i0,hi,ai,aj,ak⟩:=info_parts infoTok;go_enter func85,ntmps85;go_wp2_with fail;go_loopw[3,4] (λv i wr=>∃(j:Nat) (b:List (Tok×Value)),i=I J j/\U1 s w.heap.size w j b v wr) (λ_ i _=>s.size-(intOf i).toNat);case atStart=>refine⟨0,[],rfl,by omega,by simp,⟨World.ownsRow_nil _ _ _ _,by simp⟩,Below.refl _ _,Nat.le_refl _,by simp,?_⟩;rw[YZ];simp
 case round=>
  obtain⟨j,b,rfl,d⟩:=hrel;have hj:=d.1;have a2:=Kb false (s.data.toList.drop j);rw[List.length_drop,show s.data.toList.length=s.size from rfl]at a2;obtain⟨T,n⟩:∃T,T=zM (s.data.toList.drop (j+blk false (s.data.toList.drop j))):=⟨_,rfl⟩;obtain⟨r,q⟩:∃r,r=j+blk false (s.data.toList.drop j):=⟨_,rfl⟩;have ag:r<=s.size:=by omega
  have a8:=λw=>ziP s j r w hj hs q.symm;have M:=λw=>zjd s r w hs ag;rw[<-q]at n;rw[<-n]at M;have HT:Hid (zG j (s.data.toList.drop j)={T with place:=r}):=by rw[zd9, <-q, <-n];rfl
  have B:Hid (r=j+blk false (s.data.toList.drop j)):=q;have y:Hid (T=zM (s.data.toList.drop r)):=n;clear q n a2;have a5:=d.2.2.1.1;have aq:=d.2.1;have hB:=d.2.2.2.2.1;go_wp2_with(first|(go_at_call 121;refine(a8 _).mono ?_;rintro e R⟨rfl,rfl⟩)|(go_at_call 122;refine(M _).mono ?_;rintro e U⟨v,rfl,z,O⟩;obtain⟨k,l,rfl⟩:=zl O;have K:=Zv a5 z;have ap:=z.size;simp only[zP])|(at_builtin;refine wpList_append_own _ rfl _ _ 180 rfl (w.heap.size) 237 i0 _ 4 56 underlying180 hi ai aj ak rfl (by decide) _ _ _ rfl ((K.alloc _).alloc _) ⟨U.heap.size+1,0,N⟩ 1 1 (YI ({T with place:=r},.slice k T.spans.length l)) rfl rfl ?c1 ?c2 ?c3 ?c4 ?c5 ?_));case c1=>rw[<-World.size_alloc U (Obj.cells #[Value.int IntKind.u8 (zt T.kind),Value.int IntKind.i64 ↑r,Value.string ⟨List.toArray T.text⟩,Value.slice k T.spans.length l] 237)];exact zed _ _ _ _ _ _
  case c2=>intro u hu;simp[YI]at hu;rcases hu with rfl|rfl|rfl|rfl<;>rfl
  case c3=>unfold maxLen;omega
  case c4=>omega
  case c5=>simp;omega
  intro v' A a6 H af;have m:=d.push (T:={T with place:=r}) (sv:=.slice k T.spans.length l) z O a6 H;have an:A.cell? ⟨U.heap.size,0,N⟩=S (I .u8 (zt T.kind)):=by
   refine H.cell ?_ ?_;·rw[World.cell?_alloc_lt _ _ _ (by simp)];simp
   ·intro hx;have:=(K.lt _ hx.symm);simp at this
  have ab:Qm T.kind:=by rw[y.out];exact qa _
  have G:=K9 j (s.data.toList.drop j);rw[HT.out]at G;have x:Hid (TL j (s.data.toList.drop j)=_):=G;have Z:=d.2.2.2.2.2.2;have a7:=d.2.2.2.2.2.1;have t:Hid (Qn s.data.toList=b.map (·.1)++TL j (s.data.toList.drop j)):=Z;clear G Z d a5 K a6 H O z a8 M;rcases zfF ab with⟨o,hk⟩|⟨o,a4,ae⟩
  ·have D:b.map (·.1)++[{T with place:=r}]=Qn s.data.toList:=by rw[t.out,x.out,if_pos o]
   have E:(Qn s.data.toList).length=b.length+1:=by rw[<-D];simp
   obtain⟨F,Y,aa⟩:=m;have ah:∃a c,v'=.slice (S a) (b.length+1) c:=by
    rcases F.1.2 with⟨h,_⟩|⟨g,al,am,h,_⟩;·exact absurd h af
    ·exact⟨_,_,by simpa using h⟩
   obtain⟨a,c,rfl⟩:=ah;have a3:∃W X a9,Ending.returned (.slice (S a) (b.length+1) c)=.returned (.slice (S W) (Qn s.data.toList).length X)/\Below w.heap.size w A/\a9.map (·.1)=Qn s.data.toList/\YN A w.heap.size (.slice (S W) (Qn s.data.toList).length X) a9:=⟨a,c,b++[({T with place:=r},.slice k T.spans.length l)],by rw[E],Y,by rw[<-D];simp,by rw[E];exact F⟩;have V:Hid _:=a3;clear a3 F Y aa E D t x HT y;have ad:(zt T.kind==0)=true\/((zt T.kind==0)=false/\(zt T.kind==1)=true):=by
    rcases hk with h|h<;>rw[h];·left;rfl
    ·right;exact⟨rfl,rfl⟩
   rcases ad with a4|⟨a4,ae⟩;·go_wp2;go_ret;exact V.out
   ·go_wp2;go_ret;exact V.out
  ·have L:=Kl (s.data.toList.drop r) (by rw[<-y.out];exact o);rw[<-y.out,List.length_drop,show s.data.toList.length=s.size from rfl]at L;obtain⟨L,ao⟩:=L;have hN:U1 s w.heap.size w (r+T.size) (b++[({T with place:=r},.slice k T.spans.length l)]) v' A:=by
    refine⟨by omega,by have:=B.out;simp;omega,m.1,m.2.1,m.2.2,?_,?_⟩
    ·intro p f;rcases List.mem_append.1 f with f|f;·exact a7 p f
     ·simp at f;subst f;exact o
    ·rw[t.out,x.out,if_neg (by simp[o])];have e:j+(blk false (s.data.toList.drop j)+T.size)=r+T.size:=by have:=B.out;omega
     simp only[List.drop_drop,e,List.map_append,List.map_cons,List.map_nil,List.append_assoc,List.cons_append,List.nil_append]
   clear m a7 t x HT;go_wp2;go_roundw;case rel=>exact⟨r+T.size,_,by go_num,hN⟩
   case measure=>have:=B.out;simp[intOf];omega
def Rd(w:World)(e b c:Nat)(a:List (Tok×Value))(n d:Nat):Prop:=w.heap[e]?=S (.cells #[.slice (S ⟨b,0,N⟩) a.length c,I J n,I J d] 183 (0,0))/\YN w 0 (.slice (S ⟨b,0,N⟩) a.length c) a/\a.length<=2001/\∀p∈a,p.1.text.length<=2000
theorem z8{w:World}{b:Nat}{a:Array Value}{e:TypeId}{c:Nat×Nat}(h:w.heap[b]?=S (.cells a e c))(o:Nat):w.cell? ⟨b,o,N⟩=a[o]?:=by simp[World.cell?,h]
theorem zi{w:World}{b:Nat}{a:Array Value}{e:TypeId}(h:w.heap[b]?=S (.cells a e (0,0)))(o:Nat):w.frozen? ⟨b,o,N⟩=false:=by simp[World.frozen?,h]
theorem zf0(a:List (Tok×Value))(i j:Nat)(b:i<a.length)(e:j<4):(a.flatMap YI)[i *4+j]?=(YI a[i])[j]?:=by
 induction a generalizing i with
 |nil=>simp at b
 |cons p a d=>
  have c:(YI p).length=4:=rfl;cases i with
  |zero=>simp only[List.flatMap_cons,Nat.zero_mul,Nat.zero_add,List.getElem_cons_zero];rw[List.getElem?_append_left (by omega)]|succ i=>simp only[List.flatMap_cons,List.getElem_cons_succ];rw[List.getElem?_append_right (by omega),c,show(i+1) *4+j-4=i *4+j from by omega];exact d i (by simpa using b)
theorem Rd.tok{w:World}{f b g:Nat}{a:List (Tok×Value)}{n d:Nat}(h:Rd w f b g a n d)(i j:Nat)(c:i<a.length)(e:j<4):w.cell? ⟨b,i *4+j,N⟩=(YI a[i])[j]?:=by rw[h.2.1.1.cellAt (i *4+j) (by omega)];exact zf0 a i j c e
theorem Rd.tok'{w:World}{e b f:Nat}{a:List (Tok×Value)}{n d:Nat}(h:Rd w e b f a n d)(i:Nat)(c:i<a.length):w.cell? ⟨b,i *4,N⟩=S (I .u8 (zt a[i].1.kind))/\w.cell? ⟨b,i *4+1,N⟩=S (I J a[i].1.place)/\w.cell? ⟨b,i *4+2,N⟩=S (.string ⟨a[i].1.text.toArray⟩)/\w.cell? ⟨b,i *4+3,N⟩=S a[i].2:=⟨h.tok i 0 c (by decide),h.tok i 1 c (by decide),h.tok i 2 c (by decide),h.tok i 3 c (by decide)⟩
theorem Rd.cells{w:World}{a c e:Nat}{b:List (Tok×Value)}{n d:Nat}(h:Rd w a c e b n d):w.cell? ⟨a,0,N⟩=S (.slice (S ⟨c,0,N⟩) b.length e)/\w.cell? ⟨a,1,N⟩=S (I J n)/\w.cell? ⟨a,2,N⟩=S (I J d)/\∀o,w.frozen? ⟨a,o,N⟩=false:=⟨z8 h.1 0,z8 h.1 1,z8 h.1 2,zi h.1⟩
theorem zfI(w:World)(b l m:Nat)(a:List (Tok×Value))(n d:Nat)(h:Rd w b l m a n d)(g:n<a.length):Calls P 124 #[.pointer (S ⟨b,0,N⟩)] w λe o=>e=.returned (I .u8 (zt a[n].1.kind))/\∃q,o=w.drewN q:=by
 obtain⟨p,r,c,f⟩:=h.cells;obtain⟨u,i,j,k⟩:=h.tok' n g;have s:=h.2.2.1;have t:(n:Int)<(a.length:Int):=by omega
 clear h i j k c f;go_enter func124,ntmps124;go_wp2_with fail;go_quiet(fail);go_wp2_with fail;go_ret;exact⟨rfl,_,rfl⟩
theorem UU(w:World)(c m o:Nat)(a:List (Tok×Value))(n d:Nat)(h:Rd w c m o a n d)(i:n<a.length)(b:Int):Calls P 162 #[.pointer (S ⟨c,0,N⟩),I J b] w λe p=>e=.returned (.iface 128 (.agg #[I J b,I J a[n].1.place]))/\∃q,p=w.drewN q:=by
 obtain⟨r,s,f,g⟩:=h.cells;obtain⟨j,v,k,l⟩:=h.tok' n i;have t:=h.2.2.1;have u:(n:Int)<(a.length:Int):=by omega
 clear h j k l f g;go_enter func162,ntmps162;go_wp2_with fail;go_quiet(fail);go_wp2_with fail;go_ret;exact⟨rfl,_,rfl⟩
end
end Go.Proofs.YtiganlkabilblaaGreatDoor
