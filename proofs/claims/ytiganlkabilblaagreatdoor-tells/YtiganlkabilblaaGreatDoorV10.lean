import Derived.Test.YtiganlkabilblaaGreatDoorV09
set_option linter.all false
set_option maxHeartbeats 64000000
set_option maxRecDepth 100000
namespace Go.Proofs.YtiganlkabilblaaGreatDoor
open Tryz
open Tryz renaming prog->P
open Option renaming some->S,none->N
open Value renaming int->I
open IntKind renaming i64->J
section
open Go.RowKit
structure Kv(s:ByteArray)(k:Nat)(X:List zR×Nat)(w:World)(j:Nat)(xs:List zR)(v:Value)(wr:World):Prop where
 le:k+1+j<=s.size
 len:xs.length<=j
 own:Items wr (w.heap.size+2) v xs
 tok:wr.heap[w.heap.size+1]?=some (JV 4 k 0 ⟨#[]⟩ v)
 res:wr.heap[w.heap.size]?=some (JV 0 0 0 ⟨#[]⟩ (.slice none 0 0))
 below:Below w.heap.size w wr
 size:w.heap.size+2<=wr.heap.size
 all:X=(xs++(QL (s.data.toList.drop (k+1+j))).1,j+(QL (s.data.toList.drop (k+1+j))).2)
theorem Kv.tok2{s:ByteArray}{k:Nat}{X:List zR×Nat}{w:World}{j:Nat}{c:List zR}{v:Value}{wr:World}(h:Kv s k X w j c v wr){a:World}{O:Obj}(b:(wr.alloc O).grownBy a v.ownBlock):a.heap[w.heap.size+1]?=S (JV 4 k 0 ⟨#[]⟩ v):=by have:=h.size;rw[b.block _ (by simp;omega) (λe=>by have:=(h.own.lt _ e.symm).1;omega),zm _ _ (by omega)];exact h.tok
theorem Kv.next{s:ByteArray}{k:Nat}{X:List zR×Nat}{w:World}{j:Nat}{a:List zR}{v:Value}{wr:World}(h:Kv s k X w j a v wr){f:World}{O:Obj}{c:zR}{n:Nat}{g i:Nat}(l:ZT (s.data.toList.drop (k+1+j))=S (c,n))(p:f.ownsRow (w.heap.size+2) 303 2 (.slice (S ⟨g,0,N⟩) (a.length+1) i) (a.length+1) (a.flatMap ZO++ZO c))(d:(wr.alloc O).grownBy f v.ownBlock):Hid (Kv s k X w (j+n) (a++[c]) (.slice (S ⟨g,0,N⟩) (a.length+1) i) (f.setCell ⟨w.heap.size+1,4,N⟩ (.slice (S ⟨g,0,N⟩) (a.length+1) i))):=by
 have x:=h.size;have r:=d.size;simp at r;have o:=KZ l;rw[List.length_drop,show s.data.toList.length=s.size from rfl]at o;have t:=h.le;have u:=h.len;have q:f.heap[w.heap.size]?=S (JV 0 0 0 ⟨#[]⟩ (.slice N 0 0)):=by rw[d.block _ (by simp;omega) (λe=>by have:=(h.own.lt _ e.symm).1;omega),zm _ _ (by omega)];exact h.res
 refine⟨by omega,by simp;omega,?_,?_,?_,?_,by simp;omega,?_⟩;·refine ZL ?_ (by omega);simpa using p
 ·rw[Jo (h.tok2 d)];rfl
 ·rw[Below.heap_setCell _ _ _ _ (by simp)];exact q
 ·exact((h.below.alloc (by omega) _).grown d (by simp;omega) (λb m=>by have:=(h.own.lt b m).1;omega)).setCell (by simp) _
 ·rw[h.all,zcS l,List.drop_drop,show k+1+j+n=k+1+(j+n)from by omega];simp;omega
theorem zhw(s:ByteArray)(k:Nat)(w:World)(hs:s.size<=2000)(hk:k<s.size):Calls P 139 #[.string s,I J k] w λe A=>∃v,e=.returned (ZN {QB (s.data.toList.drop (k+1))with place:=k} v)/\Below w.heap.size w A/\Items A w.heap.size v (zr (QB (s.data.toList.drop (k+1)))):=by
 obtain⟨X,hX⟩:∃X,X=QL (s.data.toList.drop (k+1)):=⟨_,rfl⟩;obtain⟨T,hT⟩:∃T,T=QB (s.data.toList.drop (k+1)):=⟨_,rfl⟩;obtain⟨C,hC⟩:∃C,C=ZX (s.data.toList.drop (k+1)) X.2 93 X.1.length:=⟨_,rfl⟩;rw[<-hT];have HT:Hid (T=if C then⟨.cls,0,X.2+2,[],X.1⟩else zB):=by rw[hC,hX];exact hT
 have M:Hid (X=QL (s.data.toList.drop (k+1))):=hX;have q:Hid (C=ZX (s.data.toList.drop (k+1)) X.2 93 X.1.length):=hC;clear hX hT hC;obtain⟨i0,hi,a8,a9,aa⟩:=info_parts infoItem;go_enter func139,ntmps139;go_wp2_with fail;go_loopg[6,7,8,9] (s.size-(k+1)) (λm i _ _ _ wr=>∃(j:Nat) (d:List zR) (v:Value),m=s.size-(k+1+j)/\i=I J ↑(k+1+j)/\Hid (Kv s k X w j d v wr));case atStart=>
  refine⟨0,[],.slice N 0 0,rfl,by go_num,?_⟩;refine⟨by omega,by simp,World.ownsRow_nil _ _ _ _,?_,?_,?_,by simp,?_⟩;·rw[show w.heap.size+1=(w.alloc (JV 0 0 0 ⟨#[]⟩ (.slice N 0 0))).heap.size from by simp];exact heap_alloc_new _ _
  ·rw[zm _ _ (by simp)];exact heap_alloc_new _ _
  ·exact((Below.refl _ _).alloc (Nat.le_refl _) _).alloc (by simp) _
  ·rw[M.out];simp
 case round=>
  obtain⟨j,d,v,rfl,rfl,b⟩:=hrel;have ae:=b.out.le;have W:=z8 b.out.tok;have hf:=zi b.out.tok;have E:=z8 b.out.res;have a6:=zi b.out.res;have l:wr.ownsRow (w.heap.size+2) 303 2 v d.length (d.flatMap ZO):=b.out.own;have aq:=b.out.len;have ap:=b.out.size;obtain⟨va,vc,hv⟩:=zl l;subst hv;have D:=λ(j:Nat) (hj:j<=s.size) (o:Option (UInt8×Nat)) (h:Zh [93,45] (s.data.toList.drop j)=o)=>zak s ⟨#[93,45]⟩ ⟨#[110,116,92,93,45]⟩ j wr hj hs rfl (by decide) (by decide) h;by_cases a2:∃h:k+1+j<s.size,s[k+1+j]≠93
  ·obtain⟨K,L⟩:=a2;have tq:((s[k+1+j].toNat:Int)!=93)=true:=by rw[bne_iff_ne];intro e;apply L;apply UInt8.toNat_inj.1;rw[show(93:UInt8).toNat=93 from rfl];omega
   cases G:Zh [93,45] (s.data.toList.drop (k+1+j))with
   |none=>
    have r:=D _ ae _ G;rw[KE]at r;have y:ZT (s.data.toList.drop (k+1+j))=N:=by unfold ZT;rw[G]
    clear G D;have V:X=(d,j):=by rw[b.out.all,VU y];simp
    subst V;have t:C=false:=by rw[q.out];unfold ZX;simp only[];rw[Yl s (k+1) j K];simp[L]
    subst t;have c:=HT.out;simp at c;subst c;have B:=b.out.below;clear y L HT q M b l W hf;go_wp2_with fail;refine r.mono ?_;rintro e A⟨rfl,a⟩;replace a:=a.symm;subst a;go_wp2_with fail;refine bodyPost_ret (v:=ZN {zB with place:=k} (.slice N 0 0)) (by simp[results,results139,go_sem,Yf,E,show w.heap.size<wr.heap.size from by omega]) rfl ⟨.slice N 0 0,rfl,?_,World.ownsRow_nil _ _ _ _⟩;exact((((B.setCell (Nat.le_refl _) _).setCell (Nat.le_refl _) _).setCell (Nat.le_refl _) _).setCell (Nat.le_refl _) _).setCell (Nat.le_refl _) _
   |some p=>
    obtain⟨f,n⟩:=p;have r:=D _ ae _ G;rw[KF]at r;have a3:=Jg G;rw[List.length_drop,show s.data.toList.length=s.size from rfl]at a3;obtain⟨an,ao⟩:=a3;have ht:((n:Int)==0)=false:=beq_eq_false_iff_ne.2 (by omega);by_cases hd:∃h:k+1+j+n<s.size,s[k+1+j+n]=45
    ·obtain⟨a7,a5⟩:=hd;have ak:((s[k+1+j+n].toNat:Int)==45)=true:=by rw[a5];rfl
     have F:ZT (s.data.toList.drop (k+1+j))=(match Zh [93,45] (s.data.toList.drop (k+1+j+n+1))with|none=>N|some (hi,m)=>if f<=hi then S ((f,hi),n+1+m)else N):=by unfold ZT;rw[G];simp only[];rw[Yl s (k+1+j) n a7,if_pos (by rw[a5]),List.drop_drop];rfl
     clear a5 G;cases O:Zh [93,45] (s.data.toList.drop (k+1+j+n+1))with
     |none=>
      have H:=D _ (by omega) _ O;rw[KE]at H;simp only[show((k+1+j+n+1:Nat):Int)=(k:Int)+1+j+n+1 from by omega]at H;have y:ZT (s.data.toList.drop (k+1+j))=N:=by rw[F,O]
      clear O F D;have V:X=(d,j):=by rw[b.out.all,VU y];simp
      subst V;have t:C=false:=by rw[q.out];unfold ZX;simp only[];rw[Yl s (k+1) j K];simp[L]
      subst t;have c:=HT.out;simp at c;subst c;have B:=b.out.below;clear y L HT q M b l W hf;go_wp2_with fail;refine r.mono ?_;rintro e A⟨rfl,a⟩;replace a:=a.symm;subst a;go_wp2_with fail;refine H.mono ?_;rintro e A⟨rfl,a⟩;replace a:=a.symm;subst a;go_wp2_with fail;refine bodyPost_ret (v:=ZN {zB with place:=k} (.slice N 0 0)) (by simp[results,results139,go_sem,Yf,E,show w.heap.size<wr.heap.size from by omega]) rfl ⟨.slice N 0 0,rfl,?_,World.ownsRow_nil _ _ _ _⟩;exact((((B.setCell (Nat.le_refl _) _).setCell (Nat.le_refl _) _).setCell (Nat.le_refl _) _).setCell (Nat.le_refl _) _).setCell (Nat.le_refl _) _
     |some p=>
      obtain⟨a0,m⟩:=p;have H:=D _ (by omega) _ O;rw[KF]at H;simp only[show((k+1+j+n+1:Nat):Int)=(k:Int)+1+j+n+1 from by omega]at H;have a3:=Jg O;rw[List.length_drop,show s.data.toList.length=s.size from rfl]at a3;obtain⟨al,am⟩:=a3;have t3:((m:Int)==0)=false:=beq_eq_false_iff_ne.2 (by omega);rw[O]at F;simp only[]at F;by_cases Y:f<=a0
      ·have t4:¬(a0.toNat:Int)<f.toNat:=by rw[UInt8.le_iff_toNat_le]at Y;omega
       have a4:Hid (ZT (s.data.toList.drop (k+1+j))=S ((f,a0),n+1+m)):=by rw[if_pos Y]at F;exact F
       clear Y F O D L;go_wp2_with fail;refine r.mono ?_;rintro e A⟨rfl,a⟩;replace a:=a.symm;subst a;go_wp2_with fail;refine H.mono ?_;rintro e A⟨rfl,a⟩;replace a:=a.symm;subst a;clear r H;go_wp2_with(first|(at_builtin;refine wpList_append_lies _ rfl _ _ 147 rfl (w.heap.size+2) 303 i0 _ 2 2 underlying147 hi a8 a9 aa rfl (by decide) _ _ _ rfl (l.alloc _) ⟨wr.heap.size,0,N⟩ 1 1 (ZO (f,a0)) rfl rfl ?c1 ?c2 (by decide) ?c3 ?c4 ?c5 _ rfl ?_));case c1=>first|exact KC _ _ _ _|exactλ_ _ h=>h
       case c2=>intro u U;simp[ZO]at U;rcases U with rfl|rfl<;>rfl
       case c3=>unfold maxLen;omega
       case c4=>omega
       case c5=>first|omega|(simp;omega)
       intro g ab w2 R x af ah;have hN:=b.out.next a4.out R x;have z:=b.out.tok2 x;have ai:=z8 z;have ag:=zi z;clear R x l b W hf E a6 z;go_wp2_with fail;go_roundg (s.size-(k+1+(j+(n+1+m))));case measure=>omega
       case rel=>exact⟨j+(n+1+m),d++[(f,a0)],_,rfl,by go_num,hN⟩
      ·have t4:(a0.toNat:Int)<f.toNat:=by rw[UInt8.le_iff_toNat_le]at Y;omega
       have y:ZT (s.data.toList.drop (k+1+j))=N:=by rw[if_neg Y]at F;exact F
       clear Y F O D;have V:X=(d,j):=by rw[b.out.all,VU y];simp
       subst V;have t:C=false:=by rw[q.out];unfold ZX;simp only[];rw[Yl s (k+1) j K];simp[L]
       subst t;have c:=HT.out;simp at c;subst c;have B:=b.out.below;clear y L HT q M b l W hf;go_wp2_with fail;refine r.mono ?_;rintro e A⟨rfl,a⟩;replace a:=a.symm;subst a;go_wp2_with fail;refine H.mono ?_;rintro e A⟨rfl,a⟩;replace a:=a.symm;subst a;go_wp2_with fail;refine bodyPost_ret (v:=ZN {zB with place:=k} (.slice N 0 0)) (by simp[results,results139,go_sem,Yf,E,show w.heap.size<wr.heap.size from by omega]) rfl ⟨.slice N 0 0,rfl,?_,World.ownsRow_nil _ _ _ _⟩;exact((((B.setCell (Nat.le_refl _) _).setCell (Nat.le_refl _) _).setCell (Nat.le_refl _) _).setCell (Nat.le_refl _) _).setCell (Nat.le_refl _) _
    ·have a4:Hid (ZT (s.data.toList.drop (k+1+j))=S ((f,f),n)):=by
      show _=_;unfold ZT;rw[G];simp only[];rw[if_neg];by_cases h:k+1+j+n<s.size;·rw[Yl s (k+1+j) n h];intro e;exact hd ⟨h,by simpa using e⟩
      ·rw[Vz s (k+1+j) n (by omega)];simp
     clear G D L;by_cases a7:k+1+j+n<s.size
     ·have ak:((s[k+1+j+n].toNat:Int)==45)=false:=by rw[beq_eq_false_iff_ne];intro e;apply hd;refine⟨a7,?_⟩;apply UInt8.toNat_inj.1;rw[show(45:UInt8).toNat=45 from rfl];omega
      clear hd;go_wp2_with fail;refine r.mono ?_;rintro e A⟨rfl,a⟩;replace a:=a.symm;subst a;clear r;go_wp2_with(first|(at_builtin;refine wpList_append_lies _ rfl _ _ 147 rfl (w.heap.size+2) 303 i0 _ 2 2 underlying147 hi a8 a9 aa rfl (by decide) _ _ _ rfl (l.alloc _) ⟨wr.heap.size,0,N⟩ 1 1 (ZO (f,f)) rfl rfl ?c1 ?c2 (by decide) ?c3 ?c4 ?c5 _ rfl ?_));case c1=>first|exact KC _ _ _ _|exactλ_ _ h=>h
      case c2=>intro u U;simp[ZO]at U;subst U;rfl
      case c3=>unfold maxLen;omega
      case c4=>omega
      case c5=>first|omega|(simp;omega)
      intro g ab w2 R x af ah;have hN:=b.out.next a4.out R x;have z:=b.out.tok2 x;have ai:=z8 z;have ag:=zi z;clear R x l b W hf E a6 z;go_wp2_with fail;go_roundg (s.size-(k+1+(j+(n))));case measure=>omega
      case rel=>exact⟨j+(n),d++[(f,f)],_,rfl,by go_num,hN⟩
     ·clear hd;go_wp2_with fail;refine r.mono ?_;rintro e A⟨rfl,a⟩;replace a:=a.symm;subst a;clear r;go_wp2_with(first|(at_builtin;refine wpList_append_lies _ rfl _ _ 147 rfl (w.heap.size+2) 303 i0 _ 2 2 underlying147 hi a8 a9 aa rfl (by decide) _ _ _ rfl (l.alloc _) ⟨wr.heap.size,0,N⟩ 1 1 (ZO (f,f)) rfl rfl ?c1 ?c2 (by decide) ?c3 ?c4 ?c5 _ rfl ?_));case c1=>first|exact KC _ _ _ _|exactλ_ _ h=>h
      case c2=>intro u U;simp[ZO]at U;subst U;rfl
      case c3=>unfold maxLen;omega
      case c4=>omega
      case c5=>first|omega|(simp;omega)
      intro g ab w2 R x af ah;have hN:=b.out.next a4.out R x;have z:=b.out.tok2 x;have ai:=z8 z;have ag:=zi z;clear R x l b W hf E a6 z;go_wp2_with fail;go_roundg (s.size-(k+1+(j+(n))));case measure=>omega
      case rel=>exact⟨j+(n),d++[(f,f)],_,rfl,by go_num,hN⟩
  ·have y:ZT (s.data.toList.drop (k+1+j))=N:=by
    unfold ZT;by_cases K:k+1+j<s.size
    ·have a1:s[k+1+j]=93:=by
      by_cases h:s[k+1+j]=93;·exact h
      ·exact absurd ⟨K,h⟩ a2
     rw[Q6 s _ K,a1];rfl
    ·rw[J6 s _ (by omega)];rfl
   have V:X=(d,j):=by rw[b.out.all,VU y];simp
   clear y D;subst V;have B:=b.out.below;by_cases K:k+1+j<s.size
   ·have a1:s[k+1+j]=93:=by
     by_cases h:s[k+1+j]=93;·exact h
     ·exact absurd ⟨K,h⟩ a2
    have tq:((s[k+1+j].toNat:Int)!=93)=false:=by rw[a1];rfl
    have Z:C=(decide (1<=d.length)&&decide (d.length<=20)):=by rw[q.out];unfold ZX;simp only[];rw[Yl s (k+1) j K,a1];simp
    clear a2 a1;by_cases h1:1<=d.length
    ·by_cases ad:d.length<=20
     ·have aj:C=true:=by rw[Z];simp[h1,ad]
      subst aj;have c:=HT.out;simp only[if_true]at c;subst c;have HI:Hid (Items wr (w.heap.size+2) (.slice va d.length vc) d):=b.out.own;clear HT q M b l Z;go_wp2_with fail;refine bodyPost_ret (v:=.agg #[I J 4,I J k,I J ↑(k+(j+2)),.string ⟨#[]⟩,.slice va d.length vc]) (by simp[results,results139,go_sem,E,W,show w.heap.size<wr.heap.size from by omega];omega) rfl ⟨.slice va d.length vc,rfl,?_,?_⟩;·exact(((((B.setCell (by simp) _).setCell (Nat.le_refl _) _).setCell (Nat.le_refl _) _).setCell (Nat.le_refl _) _).setCell (Nat.le_refl _) _).setCell (Nat.le_refl _) _
      ·have hI:=HI.out;refine Zn (ZL (ZL (ZL (ZL (ZL (ZL hI ?_) ?_) ?_) ?_) ?_) ?_) (by omega:w.heap.size<=w.heap.size+2)<;>omega
     ·have t:C=false:=by rw[Z];simp[ad]
      subst t;have c:=HT.out;simp at c;subst c;clear HT q M b l Z;go_wp2_with fail;refine bodyPost_ret (v:=ZN {zB with place:=k} (.slice N 0 0)) (by simp[results,results139,go_sem,Yf,E,show w.heap.size<wr.heap.size from by omega]) rfl ⟨.slice N 0 0,rfl,?_,World.ownsRow_nil _ _ _ _⟩;exact((((B.setCell (Nat.le_refl _) _).setCell (Nat.le_refl _) _).setCell (Nat.le_refl _) _).setCell (Nat.le_refl _) _).setCell (Nat.le_refl _) _
    ·have t:C=false:=by rw[Z];simp[h1]
     subst t;have c:=HT.out;simp at c;subst c;clear HT q M b l Z;go_wp2_with fail;refine bodyPost_ret (v:=ZN {zB with place:=k} (.slice N 0 0)) (by simp[results,results139,go_sem,Yf,E,show w.heap.size<wr.heap.size from by omega]) rfl ⟨.slice N 0 0,rfl,?_,World.ownsRow_nil _ _ _ _⟩;exact((((B.setCell (Nat.le_refl _) _).setCell (Nat.le_refl _) _).setCell (Nat.le_refl _) _).setCell (Nat.le_refl _) _).setCell (Nat.le_refl _) _
   ·have t:C=false:=by rw[q.out];unfold ZX;simp only[];rw[Vz s (k+1) j (by omega)];rfl
    subst t;have c:=HT.out;simp at c;subst c;clear HT q M b l a2;go_wp2_with fail;refine bodyPost_ret (v:=ZN {zB with place:=k} (.slice N 0 0)) (by simp[results,results139,go_sem,Yf,E,show w.heap.size<wr.heap.size from by omega]) rfl ⟨.slice N 0 0,rfl,?_,World.ownsRow_nil _ _ _ _⟩;exact((((B.setCell (Nat.le_refl _) _).setCell (Nat.le_refl _) _).setCell (Nat.le_refl _) _).setCell (Nat.le_refl _) _).setCell (Nat.le_refl _) _
end
end Go.Proofs.YtiganlkabilblaaGreatDoor
