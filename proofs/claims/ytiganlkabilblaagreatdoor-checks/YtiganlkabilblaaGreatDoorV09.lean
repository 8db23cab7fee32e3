import Derived.Test.YtiganlkabilblaaGreatDoorV01
import Derived.Test.YtiganlkabilblaaGreatDoorV03
import Derived.Deep.AppendLies
import Derived.Deep.LoopGhost
set_option linter.all false
set_option maxHeartbeats 64000000
set_option maxRecDepth 100000
namespace Go.Proofs.YtiganlkabilblaaGreatDoor
open Tryz
open Tryz renaming prog->P
open Option renaming some->S,none->N
open Value renaming int->I
open IntKind renaming i64->J
section
open Go.RowKit
theorem zbn{s:ByteArray}{j:Nat}{c:UInt8}(a:j<s.size):(s.data.toList.drop j).contains c=(s[j]==c||(s.data.toList.drop (j+1)).contains c):=by rw[Q6 s j a,List.contains_cons];congr 1;exact Bool.eq_iff_iff.2 ⟨λh=>by rw[beq_iff_eq]at h|-;exact h.symm,λh=>by rw[beq_iff_eq]at h|-;exact h.symm⟩
theorem VO(s:ByteArray)(c:UInt8)(r:Bool)(w:World)(m:s.size<=2000)(f:s.data.toList.contains c=r):Calls P 137 #[.string s,I .u8 c.toNat] w λe k=>e=.returned (.bool r)/\k=w:=by
 have g:Hid ((s.data.toList.drop 0).contains c=r):=show(s.data.toList.drop 0).contains c=r from f;clear f;go_enter func137,ntmps137;go_wp2_with fail;go_loop[5] (λi=>∃j:Nat,j<=s.size/\i=I J j/\Hid ((s.data.toList.drop j).contains c=r)) (λi=>s.size-(intOf i).toNat);case atStart=>exact⟨0,Nat.zero_le _,rfl,g⟩
 case round=>
  obtain⟨j,l,rfl,b⟩:=hrel;by_cases d:j<s.size
  ·by_cases a:s[j]=c
   ·have t:((s[j].toNat:Int)==(c.toNat:Int))=true:=by rw[a];simp
    have h:r=true:=by have:=b.out;rw[zbn d]at this;rw[<-this,a];simp
    clear a;subst h;go_wp2_with fail;go_ret;exact⟨rfl,rfl⟩
   ·have t:((s[j].toNat:Int)==(c.toNat:Int))=false:=by rw[beq_eq_false_iff_ne];intro e;apply a;apply UInt8.toNat_inj.1;omega
    have h:Hid ((s.data.toList.drop (j+1)).contains c=r):=by show _=_;have:=b.out;rw[zbn d,beq_eq_false_iff_ne.2 a,Bool.false_or]at this;exact this
    clear a;go_wp2_with fail;go_round;case rel=>exact⟨j+1,by omega,by go_num,h⟩
    case measure=>simp[intOf];omega
  ·have h:r=false:=by have:=b.out;rw[J6 s j (by omega)]at this;simpa using this.symm
   subst h;go_wp2_with fail;go_ret;exact⟨rfl,rfl⟩
theorem zfN{s:ByteArray}{j:Nat}(a:j<s.size)(h:s[j]≠10):Z4 (s.data.toList.drop j)=Z4 (s.data.toList.drop (j+1))+1:=by rw[Q6 s j a];simp[Z4,h]
theorem zfQ{s:ByteArray}{j:Nat}(a:j<s.size)(h:s[j]=10):Z4 (s.data.toList.drop j)=0:=by rw[Q6 s j a];simp[Z4,h]
theorem zfO{s:ByteArray}{j:Nat}(a:s.size<=j):Z4 (s.data.toList.drop j)=0:=by rw[J6 s j a];rfl
theorem zhq(s:ByteArray)(k r:Nat)(w:World)(D:k<=s.size)(O:s.size<=2000)(E:Hid (k+blk false (s.data.toList.drop k)=r)):Calls P 136 #[.string s,I J k] w λe H=>e=.returned (I J r)/\H=w:=by
 go_enter func136,ntmps136;go_wp2_with fail;go_loop[1] (λi=>∃j:Nat,j<=s.size/\i=I J j/\Hid (j+blk false (s.data.toList.drop j)=r)) (λi=>s.size-(intOf i).toNat);case atStart=>exact⟨k,D,rfl,E⟩
 case round=>
  obtain⟨j,K,rfl,l⟩:=hrel;by_cases u:j<s.size
  ·by_cases a:Y9 s[j]=true
   ·have h:=Vq u a l;have v:((s[j].toNat:Int)==32)=true\/(((s[j].toNat:Int)==32)=false/\((s[j].toNat:Int)==9)=true)\/(((s[j].toNat:Int)==32)=false/\((s[j].toNat:Int)==9)=false/\((s[j].toNat:Int)==10)=true)\/(((s[j].toNat:Int)==32)=false/\((s[j].toNat:Int)==9)=false/\((s[j].toNat:Int)==10)=false/\((s[j].toNat:Int)==13)=true):=by simp only[Y9,Bool.or_eq_true,beq_iff_eq]at a;rcases a with((h|h)|h)|h<;>rw[h]<;>decide
    clear a;rcases v with n|⟨n,x⟩|⟨n,x,z⟩|⟨n,x,z,F⟩;all_goals
     go_wp2_with fail;go_round;case rel=>exact⟨j+1,by omega,by go_num,h⟩
     case measure=>simp[intOf];omega
   ·have a:Y9 s[j]=false:=by simpa using a
    have v:((s[j].toNat:Int)==32)=false/\((s[j].toNat:Int)==9)=false/\((s[j].toNat:Int)==10)=false/\((s[j].toNat:Int)==13)=false:=by simp only[Y9,Bool.or_eq_false_iff,beq_eq_false_iff_ne]at a;obtain⟨⟨⟨f,o⟩,g⟩,B⟩:=a;exact⟨Q3 f 32 rfl,Q3 o 9 rfl,Q3 g 10 rfl,Q3 B 13 rfl⟩
    obtain⟨n,x,z,F⟩:=v;by_cases b:s[j]=35
    ·have G:=QW b 35 rfl;have h:=zb4 u b l;obtain⟨f,o,g⟩:=h;obtain⟨L,p⟩:∃L,L=Z4 (s.data.toList.drop j):=⟨_,rfl⟩;rw[<-p]at f o g;have A:Hid (j+L=j+Z4 (s.data.toList.drop j)):=by rw[p];rfl
     clear p b a;go_wp2_with fail;go_loop[1] (λi=>∃m:Nat,j<=m/\m<=j+L/\i=I J m/\Hid (j+L=m+Z4 (s.data.toList.drop m))) (λi=>s.size-(intOf i).toNat);case atStart=>exact⟨j,Nat.le_refl _,by omega,rfl,A⟩
     case round=>
      obtain⟨m,N,M,rfl,q⟩:=hrel;by_cases y:m<s.size
      ·by_cases c:s[m]=10
       ·have t:((s[m].toNat:Int)!=10)=false:=by rw[c];rfl
        have e:m=j+L:=by have:=q.out;rw[zfQ y c]at this;omega
        have d:Hid (m=j+L):=e;clear c e;go_wp2_with fail;go_round;case rel=>exact⟨j+L,f,by rw[d.out],g⟩
        case measure=>have:=d.out;simp[intOf];omega
       ·have t:((s[m].toNat:Int)!=10)=true:=by rw[bne_iff_ne];intro e;apply c;apply UInt8.toNat_inj.1;rw[show(10:UInt8).toNat=10 from rfl];omega
        have e:Hid (j+L=(m+1)+Z4 (s.data.toList.drop (m+1))):=by have:=q.out;rw[zfN y c]at this;show _=_;omega
        clear c;go_wp2_with fail;go_round;case rel=>exact⟨m+1,by omega,by have:=e.out;omega,by go_num,e⟩
        case measure=>simp[intOf];omega
      ·have e:m=j+L:=by have:=q.out;rw[zfO (by omega)]at this;omega
       have d:Hid (m=j+L):=e;clear e;go_wp2_with fail;go_round;case rel=>exact⟨j+L,f,by rw[d.out],g⟩
       case measure=>have:=d.out;simp[intOf];omega
    ·have G:=Q3 b 35 rfl;have h:=zb5 u a b l;clear b a;subst h;go_wp2_with fail;go_ret;exact⟨rfl,rfl⟩
  ·have h:j=r:=by have:=l.out;rw[J6 s j (by omega)]at this;simpa[blk]using this
   subst h;go_wp2_with fail;go_ret;exact⟨rfl,rfl⟩
theorem zhu(s mk c:ByteArray)(k:Nat)(w:World)(v:k<=s.size)(y:s.size<=2000)(n:c.data.toList=110::116::92::mk.data.toList)(x:mk.size<=10)(u:c.size<=20):Calls P 167 #[.string s,I J k,.string mk,.string c] w λe h=>e=.returned (chv (Zh mk.data.toList (s.data.toList.drop k)))/\h=w:=by
 by_cases o:k<s.size
 ·rw[Q6 s k o];simp only[Zh];by_cases f:s[k]=92
  ·rw[if_pos f];have z:((s[k].toNat:Int)==10)=false:=by rw[f];rfl
   have q:((s[k].toNat:Int)!=92)=false:=by rw[f];rfl
   clear f;by_cases p:k+1<s.size
   ·rw[Q6 s (k+1) p];simp only[YP];have i:c.data.toList.contains s[k+1]=(s[k+1]==110||(s[k+1]==116||(s[k+1]==92||mk.data.toList.contains s[k+1]))):=by rw[n];simp only[List.contains_cons]
    by_cases a:s[k+1]=110;·rw[if_pos a];have l:=QW a 110 rfl;have b:=λw=>VO c s[k+1] true w (by omega) (by rw[i,a];simp);clear a i;go_enter func167,ntmps167;go_wp2_with(go_at_call 137;refine(b _).mono ?_;rintro e h⟨rfl,rfl⟩);go_ret2;exact⟨rfl,rfl⟩
    ·rw[if_neg a];have l:=Q3 a 110 rfl;by_cases d:s[k+1]=116;·rw[if_pos d];have t:=QW d 116 rfl;have b:=λw=>VO c s[k+1] true w (by omega) (by rw[i,d];simp);clear a d i;go_enter func167,ntmps167;go_wp2_with(go_at_call 137;refine(b _).mono ?_;rintro e h⟨rfl,rfl⟩);go_ret2;exact⟨rfl,rfl⟩
     ·rw[if_neg d];have t:=Q3 d 116 rfl;have m:c.data.toList.contains s[k+1]=(s[k+1]==92||mk.data.toList.contains s[k+1]):=by rw[i,beq_eq_false_iff_ne.2 a,beq_eq_false_iff_ne.2 d,Bool.false_or,Bool.false_or]
      obtain⟨r,g⟩:∃r,r=(s[k+1]==92||mk.data.toList.contains s[k+1]):=⟨_,rfl⟩;have b:=λw=>VO c s[k+1] r w (by omega) (by rw[m,g]);have j:(s[k+1]=92||mk.data.toList.contains s[k+1])=r:=by rw[g];congr 1
      clear a d i m g;rw[j];clear j;cases r with
      |true=>rw[if_pos rfl];go_enter func167,ntmps167;go_wp2_with(go_at_call 137;refine(b _).mono ?_;rintro e h⟨rfl,rfl⟩);go_ret2;exact⟨rfl,rfl⟩|false=>rw[if_neg (by simp)];go_enter func167,ntmps167;go_wp2_with(go_at_call 137;refine(b _).mono ?_;rintro e h⟨rfl,rfl⟩);go_ret2;exact⟨rfl,rfl⟩
   ·rw[J6 s (k+1) (by omega)];go_enter func167,ntmps167;go_wp2_with fail;go_ret2;exact⟨rfl,rfl⟩
  ·rw[if_neg f];have q:((s[k].toNat:Int)!=92)=true:=by rw[bne_iff_ne];intro e;apply f;apply UInt8.toNat_inj.1;rw[show(92:UInt8).toNat=92 from rfl];omega
   clear f;by_cases a:s[k]=10;·have l:=QW a 10 rfl;rw[if_pos (by rw[a];simp)];clear a;go_enter func167,ntmps167;go_wp2_with fail;go_ret2;exact⟨rfl,rfl⟩
   ·have l:=Q3 a 10 rfl;obtain⟨r,g⟩:∃r,r=mk.data.toList.contains s[k]:=⟨_,rfl⟩;have b:=λw=>VO mk s[k] r w (by omega) g.symm;have j:(decide (s[k]=10)||mk.data.toList.contains s[k])=r:=by rw[g];simp[a]
    rw[j];clear j g a;cases r with
    |true=>rw[if_pos rfl];go_enter func167,ntmps167;go_wp2_with(go_at_call 137;refine(b _).mono ?_;rintro e h⟨rfl,rfl⟩);go_ret2;exact⟨rfl,rfl⟩|false=>rw[if_neg (by simp)];go_enter func167,ntmps167;go_wp2_with(go_at_call 137;refine(b _).mono ?_;rintro e h⟨rfl,rfl⟩);go_ret2;exact⟨rfl,rfl⟩
 ·rw[J6 s k (by omega)];go_enter func167,ntmps167;go_wp2_with fail;go_ret2;exact⟨rfl,rfl⟩
theorem zak(s mk a:ByteArray)(k:Nat)(w:World)(d:k<=s.size)(g:s.size<=2000)(b:a.data.toList=110::116::92::mk.data.toList)(f:mk.size<=10)(c:a.size<=20){o:Option (UInt8×Nat)}(h:Zh mk.data.toList (s.data.toList.drop k)=o):Calls P 167 #[.string s,I J k,.string mk,.string a] w λe i=>e=.returned (chv o)/\i=w:=h▸zhu s mk a k w d g b f c
theorem infoItem:(prog.info? 303).map (λi=>(i.zero,i.size,i.bytes))=S (S (.agg #[I .u8 0,I .u8 0]),2,2):=by kernel_rfl
def ZS:TK->Nat
 | .name=>1
 | .arrow=>2
 | .lit=>3
 | .cls=>4
 | .sign _=>5
 | .fin=>6
 | .bad=>7
def Z1(t:Tok):List UInt8:=match t.kind with| .name=>t.text| .sign c=>[c]|_=>[]
def zz(t:Tok):Nat:=if t.kind.last then 0 else t.place+t.size
def dup(c:UInt8):zR:=(c,c)
def zr(t:Tok):List zR:=match t.kind with| .lit=>t.text.map dup| .cls=>t.spans|_=>[]
def ZN(t:Tok)(v:Value):Value:=.agg #[I J (ZS t.kind),I J t.place,I J (zz t),.string ⟨(Z1 t).toArray⟩,v]
abbrev JV(k p e:Int)(s:ByteArray)(v:Value):Obj:=.cells #[I J k,I J p,I J e,.string s,v] 206
def Items(w:World)(B:Nat)(v:Value)(a:List zR):Prop:=w.ownsRow B 303 2 v a.length (a.flatMap ZO)
theorem za{w:World}{b:Nat}{o:Obj}(h:w.heap[b]?=S o):b<w.heap.size:=by
 rcases Nat.lt_or_ge b w.heap.size with a|a;·exact a
 ·rw[Array.getElem?_eq_none a]at h;cases h
structure zaQ(s:ByteArray)(k:Nat)(X:z7×Nat)(w:World)(j:Nat)(xs:List UInt8)(v:Value)(wr:World):Prop where
 le:k+1+j<=s.size
 len:xs.length<=j
 own:Items wr (w.heap.size+2) v (xs.map dup)
 tok:wr.heap[w.heap.size+1]?=some (JV 3 k 0 ⟨#[]⟩ v)
 res:wr.heap[w.heap.size]?=some (JV 0 0 0 ⟨#[]⟩ (.slice none 0 0))
 below:Below w.heap.size w wr
 size:w.heap.size+2<=wr.heap.size
 all:X=(xs++(Qc [39] (s.data.toList.drop (k+1+j))).1,j+(Qc [39] (s.data.toList.drop (k+1+j))).2)
theorem Yf(k:Nat):ZN {zB with place:=k} (.slice N 0 0)=.agg #[I J 7,I J k,I J 0,.string ⟨#[]⟩,.slice N 0 0]:=rfl
theorem Jo{w:World}{b o:Nat}{a:Array Value}{e:TypeId}{c:Nat×Nat}(h:w.heap[b]?=S (.cells a e c))(u:Value):(w.setCell ⟨b,o,N⟩ u).heap[b]?=S (.cells (a.setIfInBounds o u) e c):=by simp[World.setCell,Array.getElem?_modify,h]
theorem ZL{w:World}{b o:Nat}{u:Value}{a:Nat}{e:TypeId}{c:Nat}{v:Value}{n:Nat}{d:List Value}(h:w.ownsRow a e c v n d)(f:b<a):(w.setCell ⟨b,o,N⟩ u).ownsRow a e c v n d:=ownsRow_setCell_below h f u
theorem zhW(s:ByteArray)(k:Nat)(w:World)(hs:s.size<=2000)(hk:k<s.size):Calls P 138 #[.string s,I J k] w λe E=>∃D,e=.returned (ZN {Qv (s.data.toList.drop (k+1))with place:=k} D)/\Below w.heap.size w E/\Items E w.heap.size D (zr (Qv (s.data.toList.drop (k+1)))):=by
 obtain⟨X,Y⟩:∃X,X=Qc [39] (s.data.toList.drop (k+1)):=⟨_,rfl⟩;obtain⟨T,W⟩:∃T,T=Qv (s.data.toList.drop (k+1)):=⟨_,rfl⟩;obtain⟨C,U⟩:∃C,C=ZX (s.data.toList.drop (k+1)) X.2 39 X.1.length:=⟨_,rfl⟩;rw[<-W];have HT:Hid (T=if C then⟨.lit,0,X.2+2,X.1,[]⟩else zB):=by rw[U,Y];exact W
 have y:Hid (X=Qc [39] (s.data.toList.drop (k+1))):=Y;have q:Hid (C=ZX (s.data.toList.drop (k+1)) X.2 39 X.1.length):=U;clear Y W U;obtain⟨i0,hi,a7,a8,a9⟩:=info_parts infoItem;go_enter func138,ntmps138;go_wp2_with fail;go_loopg[6,7,8] (s.size-(k+1)) (λm i _ _ wr=>∃(j:Nat) (d:List UInt8) (D:Value),m=s.size-(k+1+j)/\i=I J ↑(k+1+j)/\Hid (zaQ s k X w j d D wr));case atStart=>
  refine⟨0,[],.slice N 0 0,rfl,by go_num,?_⟩;refine⟨by omega,by simp,World.ownsRow_nil _ _ _ _,?_,?_,?_,by simp,?_⟩;·rw[show w.heap.size+1=(w.alloc (JV 0 0 0 ⟨#[]⟩ (.slice N 0 0))).heap.size from by simp];exact heap_alloc_new _ _
  ·rw[zm _ _ (by simp)];exact heap_alloc_new _ _
  ·exact((Below.refl _ _).alloc (Nat.le_refl _) _).alloc (by simp) _
  ·rw[y.out];simp
 case round=>
  obtain⟨j,d,D,rfl,rfl,a⟩:=hrel;have ab:=a.out.le;have Z:=z8 a.out.tok;have hf:=zi a.out.tok;have B:=z8 a.out.res;have a5:=zi a.out.res;have l:wr.ownsRow (w.heap.size+2) 303 2 D (d.map dup).length ((d.map dup).flatMap ZO):=a.out.own;have aj:=a.out.len;have ai:=a.out.size;obtain⟨M,O,hv⟩:=zl l;rw[List.length_map]at hv;subst hv;by_cases G:∃h:k+1+j<s.size,s[k+1+j]≠39
  ·obtain⟨t,K⟩:=G;have tq:((s[k+1+j].toNat:Int)!=39)=true:=by rw[bne_iff_ne];intro e;apply K;apply UInt8.toNat_inj.1;rw[show(39:UInt8).toNat=39 from rfl];omega
   cases o:Zh [39] (s.data.toList.drop (k+1+j))with
   |some p=>
    obtain⟨c,n⟩:=p;have R:Hid (Zh [39] (s.data.toList.drop (k+1+j))=S (c,n)):=o;have A:=zak s ⟨#[39]⟩ ⟨#[110,116,92,39]⟩ (k+1+j) wr (by omega) hs rfl (by decide) (by decide) o;rw[KF]at A;clear o;have ag:=(Jg R.out).1;have a6:=(Jg R.out).2;rw[List.length_drop,show s.data.toList.length=s.size from rfl]at a6;have ht:((n:Int)==0)=false:=beq_eq_false_iff_ne.2 (by omega);clear K;go_wp2_with fail;refine A.mono ?_;rintro e E⟨rfl,rfl⟩;go_wp2_with(first|(at_builtin;refine wpList_append_lies _ rfl _ _ 147 rfl (w.heap.size+2) 303 i0 _ 2 2 underlying147 hi a7 a8 a9 rfl (by decide) _ _ _ rfl (l.alloc _) ⟨E.heap.size,0,N⟩ 1 1 (ZO (dup c)) rfl rfl ?c1 ?c2 (by decide) ?c3 ?c4 ?c5 _ rfl ?_));case c1=>exact KC _ _ _ _
    case c2=>intro u hu;simp[ZO,dup]at hu;subst hu;rfl
    case c3=>simp;unfold maxLen;omega
    case c4=>simp;omega
    case c5=>simp;omega
    intro g a0 w2 a2 H ad af;have aa:=H.size;simp at aa;have L:w2.heap[w.heap.size+1]?=S (JV 3 k 0 ⟨#[]⟩ (.slice M d.length O)):=by rw[H.block _ (by simp;omega) (λe=>by have:=(l.lt _ e.symm).1;omega),zm _ _ (by omega)];exact a.out.tok
    have a3:w2.heap[w.heap.size]?=S (JV 0 0 0 ⟨#[]⟩ (.slice N 0 0)):=by rw[H.block _ (by simp;omega) (λe=>by have:=(l.lt _ e.symm).1;omega),zm _ _ (by omega)];exact a.out.res
    have ah:=z8 L;have ae:=zi L;have hN:Hid (zaQ s k X w (j+n) (d++[c]) (.slice (S ⟨g,0,N⟩) (d.length+1) a0) (w2.setCell ⟨w.heap.size+1,4,N⟩ (.slice (S ⟨g,0,N⟩) (d.length+1) a0))):=by
     refine⟨by omega,by simp;omega,?_,?_,?_,?_,by simp;omega,?_⟩;·refine ZL ?_ (by omega);simpa using a2
     ·rw[Jo L];rfl
     ·rw[Below.heap_setCell _ _ _ _ (by simp)];exact a3
     ·exact((a.out.below.alloc (by omega) _).grown H (by simp;omega) (λb hb=>by have:=(l.lt b hb).1;omega)).setCell (by simp) _
     ·rw[a.out.all,qK R.out,List.drop_drop,show k+1+j+n=k+1+(j+n)from by omega];simp;omega
    clear a2 H l a Z hf B a5 L a3 A;go_wp2_with fail;go_roundg (s.size-(k+1+(j+n)));case measure=>omega
    case rel=>exact⟨j+n,d++[c],_,rfl,by go_num,hN⟩
   |none=>
    have A:=zak s ⟨#[39]⟩ ⟨#[110,116,92,39]⟩ (k+1+j) wr (by omega) hs rfl (by decide) (by decide) o;rw[KE]at A;have V:X=(d,j):=by rw[a.out.all,Um o];simp
    clear o;subst V;have r:C=false:=by rw[q.out];unfold ZX;simp only[];rw[Yl s (k+1) j t];simp[K]
    subst r;have f:=HT.out;simp at f;subst f;have x:=a.out.below;clear K HT q y a l Z hf;go_wp2_with fail;refine A.mono ?_;rintro e E⟨rfl,rfl⟩;go_wp2_with fail;refine bodyPost_ret (v:=ZN {zB with place:=k} (.slice N 0 0)) (by simp[results,results138,go_sem,Yf,B,show w.heap.size<E.heap.size from by omega]) rfl ⟨.slice N 0 0,rfl,?_,World.ownsRow_nil _ _ _ _⟩;exact((((x.setCell (Nat.le_refl _) _).setCell (Nat.le_refl _) _).setCell (Nat.le_refl _) _).setCell (Nat.le_refl _) _).setCell (Nat.le_refl _) _
  ·have o:Zh [39] (s.data.toList.drop (k+1+j))=N:=by
    by_cases t:k+1+j<s.size
    ·have F:s[k+1+j]=39:=by
      by_cases h:s[k+1+j]=39;·exact h
      ·exact absurd ⟨t,h⟩ G
     rw[Q6 s _ t,F];rfl
    ·rw[J6 s _ (by omega)];rfl
   have V:X=(d,j):=by rw[a.out.all,Um o];simp
   clear o;subst V;have x:=a.out.below;by_cases t:k+1+j<s.size
   ·have F:s[k+1+j]=39:=by
     by_cases h:s[k+1+j]=39;·exact h
     ·exact absurd ⟨t,h⟩ G
    have tq:((s[k+1+j].toNat:Int)!=39)=false:=by rw[F];rfl
    have z:C=(decide (1<=d.length)&&decide (d.length<=20)):=by rw[q.out];unfold ZX;simp only[];rw[Yl s (k+1) j t,F];simp
    clear G F;by_cases h1:1<=d.length
    ·by_cases a1:d.length<=20
     ·have a4:C=true:=by rw[z];simp[h1,a1]
      subst a4;have f:=HT.out;simp only[if_true]at f;subst f;have HI:Hid (Items wr (w.heap.size+2) (.slice M d.length O) (d.map dup)):=a.out.own;clear HT q y a l z;go_wp2_with fail;refine bodyPost_ret (v:=.agg #[I J 3,I J k,I J ↑(k+(j+2)),.string ⟨#[]⟩,.slice M d.length O]) (by simp[results,results138,go_sem,B,Z,show w.heap.size<wr.heap.size from by omega];omega) rfl ⟨.slice M d.length O,rfl,?_,?_⟩;·exact(((((x.setCell (by simp) _).setCell (Nat.le_refl _) _).setCell (Nat.le_refl _) _).setCell (Nat.le_refl _) _).setCell (Nat.le_refl _) _).setCell (Nat.le_refl _) _
      ·have hI:=HI.out;refine Zn (ZL (ZL (ZL (ZL (ZL (ZL hI ?_) ?_) ?_) ?_) ?_) ?_) (by omega:w.heap.size<=w.heap.size+2)<;>omega
     ·have r:C=false:=by rw[z];simp[a1]
      subst r;have f:=HT.out;simp at f;subst f;clear HT q y a l z;go_wp2_with fail;refine bodyPost_ret (v:=ZN {zB with place:=k} (.slice N 0 0)) (by simp[results,results138,go_sem,Yf,B,show w.heap.size<wr.heap.size from by omega]) rfl ⟨.slice N 0 0,rfl,?_,World.ownsRow_nil _ _ _ _⟩;exact((((x.setCell (Nat.le_refl _) _).setCell (Nat.le_refl _) _).setCell (Nat.le_refl _) _).setCell (Nat.le_refl _) _).setCell (Nat.le_refl _) _
    ·have r:C=false:=by rw[z];simp[h1]
     subst r;have f:=HT.out;simp at f;subst f;clear HT q y a l z;go_wp2_with fail;refine bodyPost_ret (v:=ZN {zB with place:=k} (.slice N 0 0)) (by simp[results,results138,go_sem,Yf,B,show w.heap.size<wr.heap.size from by omega]) rfl ⟨.slice N 0 0,rfl,?_,World.ownsRow_nil _ _ _ _⟩;exact((((x.setCell (Nat.le_refl _) _).setCell (Nat.le_refl _) _).setCell (Nat.le_refl _) _).setCell (Nat.le_refl _) _).setCell (Nat.le_refl _) _
   ·have r:C=false:=by rw[q.out];unfold ZX;simp only[];rw[Vz s (k+1) j (by omega)];rfl
    subst r;have f:=HT.out;simp at f;subst f;clear HT q y a l G;go_wp2_with fail;refine bodyPost_ret (v:=ZN {zB with place:=k} (.slice N 0 0)) (by simp[results,results138,go_sem,Yf,B,show w.heap.size<wr.heap.size from by omega]) rfl ⟨.slice N 0 0,rfl,?_,World.ownsRow_nil _ _ _ _⟩;exact((((x.setCell (Nat.le_refl _) _).setCell (Nat.le_refl _) _).setCell (Nat.le_refl _) _).setCell (Nat.le_refl _) _).setCell (Nat.le_refl _) _
end
end Go.Proofs.YtiganlkabilblaaGreatDoor
