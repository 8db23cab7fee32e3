import Derived.Test.YtiganlkabilblaaGreatDoorV17
import Derived.Deep.QuietTactic
import Derived.BigQuiet
import Derived.Deep.RegionHeld
import Derived.Test.YtiganlkabilblaaGreatDoorV23
set_option linter.all false
set_option maxHeartbeats 64000000
set_option maxRecDepth 100000
namespace Go.Proofs.YtiganlkabilblaaGreatDoor
open Tryz
open Tryz renaming prog->P
open Option renaming some->S,none->N
open Value renaming int->I
open IntKind renaming i64->J
section
open Go.RowKit
attribute [local go_sem ↓] Go.wp_at_zero Go.wp_at_succ
abbrev exV(k:Nat)(a:Option Addr)(n b:Nat)(e:ByteArray)(z:Int)(c:Option Addr)(m d:Nat):Value:=.agg #[I J k,.slice a n b,.string e,I J z,.slice c m d]
abbrev qP(k:Nat)(a:Option Addr)(n b:Nat)(e:ByteArray)(z:Int)(c:Option Addr)(m d:Nat):Obj:=.cells #[I J k,.slice a n b,.string e,I J z,.slice c m d] 149 (0,0)
theorem zdQ(s:ByteArray)(k:Nat)(h:k<s.size):s.data.toList[k]?=S s[k]:=by have:k<s.data.toList.length:=h;rw[List.getElem?_eq_getElem this];simp;rfl
theorem zht(w:World)(a:Nat)(s:ByteArray)(k:Nat)(f:Option Addr)(n g:Nat)(j:ByteArray)(z:Int)(h:Option Addr)(m i:Nat)(q:a<w.heap.size)(o:w.cell? ⟨a,2,N⟩=S (.string s))(p:s.size<=1000):Calls P 173 #[.pointer (S ⟨a,0,N⟩),exV 3 f n g j z h m i,I J k] w λe l=>e=.returned (I J (zF (if k<s.size then S (k+1)else N)))/\Below w.heap.size w l:=by
 by_cases b:k<s.size
 ·have c:(k:Int)<s.size:=by omega
  rw[if_pos b];have d:zF (S (k+1))=(k:Int)+1:=by simp[zF]
  rw[d];go_enter func173,ntmps173;go_wp2_with fail;go_ret;exact⟨rfl,zc _ _⟩
 ·have c:¬(k:Int)<s.size:=by omega
  rw[if_neg b];go_enter func173,ntmps173;go_wp2_with fail;go_ret;exact⟨rfl,zc _ _⟩
theorem zhs(w:World)(d:Nat)(s:ByteArray)(k B:Nat)(a:List zR)(o:Option Addr)(r:Nat)(H:ByteArray)(z:Int)(F:Option Addr)(m G:Nat)(a2:d<w.heap.size)(W:w.cell? ⟨d,2,N⟩=S (.string s))(hs:s.size<=1000)(X:Items w B (.slice o a.length r) a)(hl:a.length<=1000):Calls P 173 #[.pointer (S ⟨d,0,N⟩),exV 2 o a.length r H z F m G,I J k] w λe w'=>e=.returned (I J (zF (match s.data.toList[k]? with|none=>N|some c=>if Q7 a c then S (k+1)else N)))/\Below w.heap.size w w':=by
 obtain⟨af,ag,hv,U⟩:=X.gen;cases hv;have HC:=z6 U;clear X U;by_cases hk:k<s.size
 ·have Y:(k:Int)<s.size:=by omega
  rw[zdQ s k hk];obtain⟨c,n⟩:∃c,c=s[k]:=⟨_,rfl⟩;rw[<-n];obtain⟨R,A⟩:∃R,R=zF (if Q7 a c then S (k+1)else N):=⟨_,rfl⟩;simp only[];rw[<-A];have HR:Hid (R=zF (if Q7 (a.drop 0) c then S (k+1)else N)):=A;clear A;go_enter func173,ntmps173;go_wp2_with fail;go_loopg[7] a.length (λE v wr=>∃j:Nat,E=a.length-j/\v=I J j/\j<=a.length/\Hid (Below w.heap.size w wr/\wr.heap[w.heap.size]?=S (qP 2 o a.length r H z F m G)/\R=zF (if Q7 (a.drop j) c then S (k+1)else N)));case atStart=>exact⟨0,by omega,rfl,by omega,zc _ _,zk _ _,HR.out⟩
  case round=>
   obtain⟨j,rfl,rfl,hj,b⟩:=hrel;have q:=z8 b.out.2.1;have ql:=za b.out.2.1;have a9:wr.cell? ⟨d,2,N⟩=S (.string s):=by rw[b.out.1.cell (p:=⟨d,2,N⟩) a2];exact W
   have ab:d<wr.heap.size:=by have:=b.out.1.size;omega
   by_cases Z:j<a.length
   ·have aa:(j:Int)<a.length:=by omega
    obtain⟨t,rfl,a0,K,L⟩:=HC.out j Z;have d0:wr.cell? ⟨t,j *2,N⟩=S (I .u8 a[j].1.toNat):=by rw[b.out.1.cell (p:=⟨t,_,N⟩) a0];exact K
    have d1:wr.cell? ⟨t,j *2+1,N⟩=S (I .u8 a[j].2.toNat):=by rw[b.out.1.cell (p:=⟨t,_,N⟩) a0];exact L
    have V:a.drop j=a[j]::a.drop (j+1):=List.drop_eq_getElem_cons Z;have a1:Q7 (a.drop j) c=((a[j].1<=c&&c<=a[j].2)||Q7 (a.drop (j+1)) c):=by rw[V];unfold Q7;rw[List.any_cons]
    have x:=z6 a1;generalize a[j].1=h at *;generalize a[j].2=g at *;clear K L V a1;by_cases f:h<=c
    ·have l:(h.toNat:Int)<=c.toNat:=by have:=UInt8.le_iff_toNat_le.1 f;omega
     by_cases i:c<=g
     ·have y:(c.toNat:Int)<=g.toNat:=by have:=UInt8.le_iff_toNat_le.1 i;omega
      have D:R=(k:Int)+1:=by rw[b.out.2.2,x.out];simp[f,i,zF]
      subst D;rw[n]at l y;go_wp2_with fail;go_quiet(fail);go_wp2_with fail;go_ret;exact⟨rfl,below_drewN b.out.1 _⟩
     ·have y:decide ((c.toNat:Int)<=g.toNat)=false:=by rw[decide_eq_false_iff_not];intro e;apply i;apply UInt8.le_iff_toNat_le.2;omega
      have u:Hid (R=zF (if Q7 (a.drop (j+1)) c then S (k+1)else N)):=by show _=_;rw[b.out.2.2,x.out];simp[i]
      have O:¬c.toNat<=g.toNat:=λe=>i (UInt8.le_iff_toNat_le.2 e);have a6:decide (c.toNat<=g.toNat)=false:=by simpa using O
      have a7:¬(c.toNat:Int)<=g.toNat:=by omega
      have a8:(g.toNat:Int)<c.toNat:=by omega
      rw[n]at l y O a6 a7 a8;clear f i;go_wp2_with fail;go_quiet(fail);go_wp2_with fail;go_roundg (a.length-(j+1));case measure=>omega
      case rel=>exact⟨j+1,rfl,by go_num,by omega,below_drewN b.out.1 _,b.out.2.1,u.out⟩
    ·have l:decide ((h.toNat:Int)<=c.toNat)=false:=by rw[decide_eq_false_iff_not];intro e;apply f;apply UInt8.le_iff_toNat_le.2;omega
     have u:Hid (R=zF (if Q7 (a.drop (j+1)) c then S (k+1)else N)):=by show _=_;rw[b.out.2.2,x.out];simp[f]
     have M:¬h.toNat<=c.toNat:=λe=>f (UInt8.le_iff_toNat_le.2 e);have a3:decide (h.toNat<=c.toNat)=false:=by simpa using M
     have a4:¬(h.toNat:Int)<=c.toNat:=by omega
     have a5:(c.toNat:Int)<h.toNat:=by omega
     rw[n]at l M a3 a4 a5;clear f;go_wp2_with fail;go_quiet(fail);go_wp2_with fail;go_roundg (a.length-(j+1));case measure=>omega
     case rel=>exact⟨j+1,rfl,by go_num,by omega,below_drewN b.out.1 _,b.out.2.1,u.out⟩
   ·have aa:¬(j:Int)<a.length:=by omega
    have D:R= -1:=by rw[b.out.2.2,List.drop_of_length_le (by omega)];simp[Q7,zF]
    subst D;go_wp2_with fail;go_ret;exact⟨rfl,b.out.1⟩
 ·have Y:¬(k:Int)<s.size:=by omega
  have ae:decide ((k:Int)<s.size)=false:=by simpa using Y
  rw[List.getElem?_eq_none (show s.data.toList.length<=k from by show s.size<=k;omega)];go_enter func173,ntmps173;go_wp2_with fail;go_loopg[7] 0 (λE v wr=>E=0/\v=I J 0/\Hid (Below w.heap.size w wr/\wr.heap[w.heap.size]?=S (qP 2 o a.length r H z F m G)));case atStart=>exact⟨rfl,rfl,zc _ _,zk _ _⟩
  case round=>
   obtain⟨rfl,rfl,b⟩:=hrel;have q:=z8 b.out.2;have ql:=za b.out.2;have a9:wr.cell? ⟨d,2,N⟩=S (.string s):=by rw[b.out.1.cell (p:=⟨d,2,N⟩) a2];exact W
   have ab:d<wr.heap.size:=by have:=b.out.1.size;omega
   by_cases h0:(0:Int)<a.length;·go_wp2_with fail;go_ret;exact⟨rfl,b.out.1⟩
   ·have ad:decide ((0:Int)<a.length)=false:=by simpa using h0
    go_wp2_with fail;go_ret;exact⟨rfl,b.out.1⟩
theorem zhm(a:UInt8)(l m:List UInt8)(c:UInt8):(a::l).isPrefixOf (c::m)=((a==c)&&l.isPrefixOf m):=rfl
theorem zhr(w:World)(f:Nat)(s:ByteArray)(k B:Nat)(a:List zR)(n:Option Addr)(o:Nat)(H:ByteArray)(z:Int)(E:Option Addr)(m F:Nat)(a3:f<w.heap.size)(X:w.cell? ⟨f,2,N⟩=S (.string s))(hs:s.size<=1000)(y:Items w B (.slice n a.length o) a)(hl:a.length<=1000)(hk:k<=s.size):Calls P 173 #[.pointer (S ⟨f,0,N⟩),exV 1 n a.length o H z E m F,I J k] w λe w'=>e=.returned (I J (zF (if (a.map (·.1)).isPrefixOf (s.data.toList.drop k)then S (k+a.length)else N)))/\Below w.heap.size w w':=by
 obtain⟨ab,ad,hv,u⟩:=y.gen;cases hv;have K:=z6 u;clear y u;obtain⟨R,l⟩:∃R,R=zF (if (a.map (·.1)).isPrefixOf (s.data.toList.drop k)then S (k+a.length)else N):=⟨_,rfl⟩;rw[<-l];have M:Hid (R=zF (if ((a.drop 0).map (·.1)).isPrefixOf (s.data.toList.drop (k+0))then S (k+a.length)else N)):=l;clear l;go_enter func173,ntmps173;go_wp2_with fail;go_loopg[8] a.length (λmm v wr=>∃j:Nat,mm=a.length-j/\v=I J j/\j<=a.length/\Hid (Below w.heap.size w wr/\wr.heap[w.heap.size]?=S (qP 1 n a.length o H z E m F)/\R=zF (if ((a.drop j).map (·.1)).isPrefixOf (s.data.toList.drop (k+j))then S (k+a.length)else N)));case atStart=>exact⟨0,by omega,rfl,by omega,zc _ _,zk _ _,M.out⟩
 case round=>
  obtain⟨j,rfl,rfl,hj,b⟩:=hrel;have q:=z8 b.out.2.1;have ql:=za b.out.2.1;have a5:wr.cell? ⟨f,2,N⟩=S (.string s):=by rw[b.out.1.cell (p:=⟨f,2,N⟩) a3];exact X
  have a9:f<wr.heap.size:=by have:=b.out.1.size;omega
  by_cases A:j<a.length
  ·have a1:(j:Int)<a.length:=by omega
   obtain⟨G,rfl,a2,t,O⟩:=K.out j A;have d0:wr.cell? ⟨G,j *2,N⟩=S (I .u8 a[j].1.toNat):=by rw[b.out.1.cell (p:=⟨G,_,N⟩) a2];exact t
   have i:(a.drop j).map (·.1)=a[j].1::(a.drop (j+1)).map (·.1):=by rw[List.drop_eq_getElem_cons A];rfl
   clear t O;by_cases Y:k+j<s.size
   ·have Z:(k:Int)+j<s.size:=by omega
    have a0:decide ((s.size:Int)<=(k:Int)+j)=false:=by simp;omega
    have a6:¬(s.size:Int)<=(k:Int)+j:=by omega
    have x:s.data.toList.drop (k+j)=s[k+j]::s.data.toList.drop (k+(j+1)):=by have U:k+j<s.data.toList.length:=Y;rw[List.drop_eq_getElem_cons U];congr 1
    have D:((a.drop j).map (·.1)).isPrefixOf (s.data.toList.drop (k+j))=((a[j].1==s[k+j])&&((a.drop (j+1)).map (·.1)).isPrefixOf (s.data.toList.drop (k+(j+1)))):=by rw[i,x,zhm]
    have r:=z6 D;have aa:((k:Int)+(j:Int)).toNat=k+j:=by omega
    have hw:wrap64 ((k:Int)+(j:Int))=(k:Int)+j:=IntWalk.wrap64_in _ ⟨by omega,by omega⟩;have a7:(0:Int)<=(k:Int)+j:=by omega
    have a8:∀h:((k:Int)+(j:Int)).toNat<s.size,(s[((k:Int)+(j:Int)).toNat]'h)=s[k+j]:=λh=>by congr 1
    generalize a[j].1=d at *;clear i x D;by_cases c:d=s[k+j]
    ·have V:(s[k+j].toNat:Int)=d.toNat:=by rw[c]
     have W:((s[k+j].toNat:Int)!=(d.toNat:Int))=false:=by rw[c];simp
     have L:Hid (R=zF (if ((a.drop (j+1)).map (·.1)).isPrefixOf (s.data.toList.drop (k+(j+1)))then S (k+a.length)else N)):=by show _=_;rw[b.out.2.2,r.out,c];simp
     clear c V;go_wp2_with fail;go_quiet(fail);go_wp2_with fail;go_roundg (a.length-(j+1));case measure=>omega
     case rel=>exact⟨j+1,rfl,by go_num,by omega,below_drewN b.out.1 _,b.out.2.1,L.out⟩
    ·have a4:¬s[k+j].toNat=d.toNat:=λe=>c (UInt8.toNat_inj.1 e).symm;have W:((s[k+j].toNat:Int)!=(d.toNat:Int))=true:=by rw[bne_iff_ne];omega
     have g:R= -1:=by
      rw[b.out.2.2,r.out];have:(d==s[k+j])=false:=by simpa using c
      rw[this];rfl
     subst g;clear c;go_wp2_with fail;go_quiet(fail);go_wp2_with fail;go_ret;exact⟨rfl,below_drewN b.out.1 _⟩
   ·have Z:(s.size:Int)<=(k:Int)+j:=by omega
    have a0:decide ((s.size:Int)<=(k:Int)+j)=true:=by simp;omega
    have hw:wrap64 ((k:Int)+(j:Int))=(k:Int)+j:=IntWalk.wrap64_in _ ⟨by omega,by omega⟩;have g:R= -1:=by rw[b.out.2.2,i,List.drop_of_length_le (show s.data.toList.length<=k+j from by show s.size<=k+j;omega)];rfl
    subst g;clear i;go_wp2_with fail;go_quiet(fail);go_wp2_with fail;go_ret;exact⟨rfl,below_drewN b.out.1 _⟩
  ·have a1:¬(j:Int)<a.length:=by omega
   have g:R=(k:Int)+a.length:=by rw[b.out.2.2,List.drop_of_length_le (by omega)];simp[zF]
   subst g;go_wp2_with fail;go_ret;exact⟨rfl,b.out.1⟩
structure Env(w0:World)(B gb:Nat)(vx vr:Value)(ps:List (RE×Value×Value))(rs:List (z7×Nat))(s:ByteArray)(rbs:List Nat):Prop where
 gm:GM w0 B gb vx vr (ps.map (ZY (zj rs))) rs
 fits:K5 ps rs
 rpos:0<rs.length
 rle:rs.length<=20
 ple:ps.length<=10000
 sle:s.size<=200
 len:rbs.length=ps.length
abbrev evS(b:List (RE×Value×Value))(a:List (z7×Nat))(s:ByteArray):Nat->REv:=evR (zK b) (zj a) (Zp a) s.data.toList
abbrev ztw(b:List (RE×Value×Value))(a:List (z7×Nat))(s:ByteArray)(M:Tab):Prop:=Snd (zK b) (zj a) (Zp a) s.data.toList M
structure Stt(w0:World)(tb eb ec:Nat)(vx vr:Value)(ps:List (RE×Value×Value))(rs:List (z7×Nat))(s:ByteArray)(rbs:List Nat)(w:World):Prop where
 ex:∃M,Y1 w0 w tb eb ec vx vr s rbs M/\ztw ps rs s M
theorem Stt.below{j:World}{f a b:Nat}{i g:Value}{c:List (RE×Value×Value)}{e:List (z7×Nat)}{s:ByteArray}{d:List Nat}{w w':World}(h:Stt j f a b i g c e s d w)(m:Below w.heap.size w w'):Stt j f a b i g c e s d w':=by obtain⟨M,k,l⟩:=h;exact⟨M,k.kept m,l⟩
def JM(n:World)(d g h:Nat)(l j:Value)(a:List (RE×Value×Value))(c:List (z7×Nat))(s:ByteArray)(b:List Nat)(f:Nat):Prop:=∀(w:World) (i k:Nat) (v:Option Nat),Stt n d g h l j a c s b w->k<=s.size->evS a c s f i k=S v->Calls P 112 #[.pointer (S ⟨d,0,N⟩),I J i,I J k] w λe m=>e=.returned (I J (zF v))/\Stt n d g h l j a c s b m/\KpM b w.heap.size w m
def zaU(n:World)(d g h:Nat)(l j:Value)(a:List (RE×Value×Value))(c:List (z7×Nat))(s:ByteArray)(b:List Nat)(f:Nat):Prop:=∀(w:World) (i k:Nat) (v:Option Nat),Stt n d g h l j a c s b w->k<=s.size->evS a c s f i k=S v->Calls P 148 #[.pointer (S ⟨d,0,N⟩),I J i,I J k] w λe m=>e=.returned (I J (zF v))/\Stt n d g h l j a c s b m/\KpM b w.heap.size w m
theorem Stt.exq{i:World}{B X tb V W:Nat}{y H:Value}{d:List (RE×Value×Value)}{f:List (z7×Nat)}{s:ByteArray}{G:List Nat}{w:World}(A:Env i B X y H d f s G)(h:Stt i tb V W y H d f s G w){k:Nat}{e:RE}(u:(zK d)[k]?=S e)(t:okE (zj f) e=true):∃(c z:Nat) (l:Option Addr) (m:Nat) (n:Option Addr) (v:Nat),k<d.length/\y=.slice (S ⟨c,0,N⟩) d.length z/\c<w.heap.size/\w.cell? ⟨c,k *5,N⟩=S (I J e.kind)/\w.cell? ⟨c,k *5+1,N⟩=S (.slice l e.items.length m)/\w.cell? ⟨c,k *5+2,N⟩=S (.string ⟨e.text.toArray⟩)/\w.cell? ⟨c,k *5+3,N⟩=S (I J (rfE (zj f) e 0))/\w.cell? ⟨c,k *5+4,N⟩=S (.slice n e.parts.length v)/\e.parts.length<=9223372036854775807/\(∀j (hj:j<e.parts.length),∃x,n=S ⟨x,0,N⟩/\x<i.heap.size/\i.cell? ⟨x,j,N⟩=S (I J e.parts[j]))/\Items w B (.slice l e.items.length m) e.items/\e.items.length<=20/\(∀p∈e.parts,p<d.length)/\(6<e.kind->∃p,e.parts=[p])/\(e.kind=4->(zj f).contains e.text=true):=by
 have F:e.items.length<=20/\(e.kind=4->(zj f).contains e.text=true):=by simp only[okE,Bool.and_eq_true,decide_eq_true_eq,Bool.or_eq_true,bne_iff_ne]at t;exact⟨t.1.2,λY=>t.2.resolve_left (λh=>h Y)⟩
 obtain⟨M,q,_⟩:=h;obtain⟨c,z,l,m,n,v,r,rfl,a3,K,L,O,R,U,a4,a2,a1,E⟩:=A.gm.exq u;have hs:=q.size;have g:∀o,w.cell? ⟨c,o,N⟩=i.cell? ⟨c,o,N⟩:=λo=>World.cell?_of_block (a:=⟨c,o,N⟩) (q.old c a3);have a0:∃p∈d,p.1=e:=by rw[List.getElem?_map,List.getElem?_eq_getElem r]at u;exact⟨d[k],List.getElem_mem r,by simpa using u⟩
 obtain⟨p,hp,rfl⟩:=a0;have D:=A.fits.ex p hp;refine⟨c,z,l,m,n,v,r,rfl,by omega,(g _).trans K,(g _).trans L,(g _).trans O,(g _).trans R,(g _).trans U,a2,a1,Z6 E (λb Z=>q.old b (E.lt b Z).2),F.1,D.1,D.2.1,F.2⟩
theorem Stt.cells{c:World}{d e f:Nat}{j i:Value}{k:List (RE×Value×Value)}{l:List (z7×Nat)}{s:ByteArray}{g:List Nat}{w:World}(h:Stt c d e f j i k l s g w):d<w.heap.size/\c.heap.size<=w.heap.size/\(∀b,b<c.heap.size->w.heap[b]?=c.heap[b]?)/\∀o,w.cell? ⟨d,o,N⟩=(#[j,i,.string s,.slice (S ⟨e,0,N⟩) g.length f]:Array Value)[o]?:=by obtain⟨M,a,_⟩:=h;exact⟨zd a.blk,a.size,a.old,z8 a.blk⟩
theorem zjm{x:World}{B X a A D:Nat}{v u:Value}{d:List (RE×Value×Value)}{c:List (z7×Nat)}{s:ByteArray}{n:List Nat}(f:Env x B X v u d c s n)(w:World)(i k:Nat)(e:RE)(h:Stt x a A D v u d c s n w)(Y:k<=s.size)(M:(zK d)[i]?=S e)(L:okE (zj c) e=true)(H:e.kind=1\/e.kind=2\/e.kind=3):Calls P 148 #[.pointer (S ⟨a,0,N⟩),I J i,I J k] w λp o=>p=.returned (I J (zF (Yh s.data.toList e k)))/\Stt x a A D v u d c s n o/\KpM n w.heap.size w o:=by
 obtain⟨xg,xc,g,j,l,m,hi,rfl,a8,c0,c1,c2,c3,c4,a5,Z,G,a1,_,_,_⟩:=h.exq f M L;obtain⟨a0,a7,a3,q⟩:=h.cells;have a6:=f.sle;have a4:=f.ple;have a2:(i:Int)<d.length:=by omega
 have q2:=q 2;have E:∀O:Obj,Calls P 173 #[.pointer (S ⟨a,0,N⟩),exV e.kind g e.items.length j ⟨e.text.toArray⟩ (rfE (zj c) e 0) l e.parts.length m,I J k] (w.alloc O) λp o=>p=.returned (I J (zF (Yh s.data.toList e k)))/\Below (w.alloc O).heap.size (w.alloc O) o:=by
  intro O;have r:a<(w.alloc O).heap.size:=by simp;omega
  have t:(w.alloc O).cell? ⟨a,2,N⟩=S (.string s):=by rw[World.cell?_alloc_lt _ _ _ a0];exact q2
  have U:=G.below (zc w O);unfold Yh;rcases H with b|b|b;·rw[if_neg (by omega),if_neg (by omega),b];exact zhr _ a s k B e.items g j _ _ l _ m r t (by omega) U (by omega) Y
  ·rw[if_neg (by omega),if_pos b,b];exact zhs _ a s k B e.items g j _ _ l _ m r t (by omega) U (by omega)
  ·rw[if_pos b,b];exact zht _ a s k g _ j _ _ l _ m r t (by omega)
 have V:=z6 E;have W:=z6 h;clear E G Z h M f L;generalize zF (Yh s.data.toList e k)=R at *;generalize e.items.length=il at *;generalize e.parts.length=pl at *;generalize rfE (zj c) e 0=z at *;generalize e.text=tx at *;generalize e.kind=K at *;rcases H with rfl|rfl|rfl;all_goals go_enter func148,ntmps148;go_wp2_with fail;refine(V.out _).mono ?_;rintro _ w1⟨rfl,F⟩;have y:=z6 ((zc w _).trans (F.mono (by simp)));clear F;go_wp2_with fail;go_ret;exact⟨rfl,W.out.below y.out,KpM.of_below y.out⟩
theorem Stt.fresh{o:World}{l c d:Nat}{n m:Value}{j:List (RE×Value×Value)}{k:List (z7×Nat)}{s:ByteArray}{a:List Nat}{w:World}(h:Stt o l c d n m j k s a w):∀b∈a,b<w.heap.size:=by obtain⟨M,e,_⟩:=h;intro b f;obtain⟨i,g,rfl⟩:=List.getElem_of_mem f;exact zd (e.row i g)
theorem KpM.own{a:List Nat}{w c:World}{O:Obj}(e:∀b∈a,b<w.heap.size)(h:KpM a (w.alloc O).heap.size (w.alloc O) c):c.heap[w.heap.size]?=S O:=by rw[h.block _ (by simp) (λd=>by have:=e _ d;omega)];exact zk _ _
theorem KpM.alloc{a:List Nat}{w b:World}{O:Obj}(h:KpM a (w.alloc O).heap.size (w.alloc O) b):KpM a w.heap.size w b:=KpM.go (KpM.of_below (zc w O)) h
theorem zjp{t:World}{B gb g u y:Nat}{r p:Value}{c:List (RE×Value×Value)}{b:List (z7×Nat)}{s:ByteArray}{l:List Nat}(d:Env t B gb r p c b s l)(f:Nat)(F:JM t g u y r p c b s l f)(w:World)(i k:Nat)(e:RE)(v:Option Nat)(h:Stt t g u y r p c b s l w)(hk:k<=s.size)(X:(zK c)[i]?=S e)(M:okE (zj b) e=true)(o:e.kind=4)(j:evS c b s f ((Zp b).getD (idx0 (zj b) e.text) 0) k=S v):Calls P 148 #[.pointer (S ⟨g,0,N⟩),I J i,I J k] w λe' w'=>e'=.returned (I J (zF v))/\Stt t g u y r p c b s l w'/\KpM l w.heap.size w w':=by
 obtain⟨xg,xc,ia,ic,pa,pc,hi,rfl,ah,c0,c1,c2,D,c4,ab,a4,a3,a8,_,_,L⟩:=h.exq d X M;obtain⟨ag,af,U,q⟩:=h.cells;have aa:=d.ple;have ae:=d.rle;have a9:(i:Int)<c.length:=by omega
 have n:=L o;have z:=KU (names:=zj b) o;rw[if_pos n]at z;have Y:idx0 (zj b) e.text=(zj b).idxOf e.text:=by unfold idx0;rw[if_pos n]
 rw[Y]at j;have A:(zj b).idxOf e.text<b.length:=by have:=List.idxOf_lt_length_iff.2 (show e.text∈zj b by simpa using n);simpa using this
 rw[z]at D;obtain⟨x,Z⟩:∃x,x=(zj b).idxOf e.text:=⟨_,rfl⟩;rw[<-Z]at D j A;have G:(Zp b).getD x 0=b[x].2:=by rw[List.getD_eq_getElem?_getD,List.getElem?_map,List.getElem?_eq_getElem A];rfl
 rw[G]at j;obtain⟨m,rc,a6,_,a5⟩:=d.gm.ruAt d.rpos;have H:=d.gm;subst a6;have E:=(H.ruCells x A).2;have a7:w.cell? ⟨m,x *2+1,N⟩=S (I J b[x].2):=by rw[World.cell?_of_block (a:=⟨m,_,N⟩) (U m a5)];exact E
 have ad:m<w.heap.size:=by omega
 have ai:(x:Int)<b.length:=by omega
 have aj:¬(x:Int)<0:=by omega
 have W:=λ(O:Obj) (q:Nat)=>F ((w.alloc O).drewN q) b[x].2 k v (h.below (below_drewN (zc w O) q)) hk j;have a2:=z6 W;have HF:=z6 h.fresh;have q0:w.cell? ⟨g,0,N⟩=S (.slice (S ⟨xg,0,N⟩) c.length xc):=q 0;have q1:w.cell? ⟨g,1,N⟩=S (.slice (S ⟨m,0,N⟩) b.length rc):=q 1;generalize b[x].2=bd at *;generalize zF v=R at *;rw[o]at c0;clear M a3 a4 h X d L n z Y Z G H E W F j q U o;generalize e.items.length=il at *;generalize e.parts.length=pl at *;generalize e.text=tx at *;go_enter func148,ntmps148;go_wp2_with fail;go_region_with(go_at_call 112;refine(a2.out _ 1).mono ?_;rintro _ w1⟨rfl,V,K⟩;have a1:=z6 V;have a0:=z6 K;clear V K);all_goals go_wp2_with fail
 all_goals go_ret;exact⟨rfl,a1.out,KpM.go (KpM.of_below (below_drewN (zc w _) 1)) a0.out⟩
end
section
open Go.RowKit
theorem zcN{A:Nat->Prop}{c j k n:Nat}{w e:World}(h:w.heap[c]?=S (Qd j (.map (S k)) n))(u:Up c w e)(f:∀g,A g->g≠c):Sm A w e:=by refine⟨λv l b=>Z6 b (λg a=>u.old g (b.lt g a).2 ?_),λg a i=>u.old g a (f g i)⟩;rintro rfl;obtain⟨m,d⟩:=Zr b a;rw[h]at d;simp at d
theorem Zd.up{c g a n:Nat}{d:List z7}{w e:World}(b:Zd w a d)(h:w.heap[c]?=S (Qd g (.map (S a)) n))(u:Up c w e):Zd e a d:=by refine b.same (u.old a b.lt ?_);rintro rfl;obtain⟨D,⟨j,i,f,_⟩,_⟩:=b;rw[f]at h;simp at h
abbrev Mak(d g h:Nat)(N:List Nd)(c:List (Nat×Nat×Nat))(S:Nat->Prop)(i:Nat)(P:List Nd->Nat->Prop)(w:World):Ending->World->Prop:=λe f=>∃a y n x b,e=.returned (zT x)/\x=(c++y).getD n (0,0,0)/\n<a.length/\Mk f d g h a (c++y) b/\Goes N a/\a.length<=N.length+i/\P a n/\KpM [d] w.heap.size w f/\GrS w S b
theorem Qg.mak{g i j:Nat}{N:List Nd}{a:List (Nat×Nat×Nat)}{S:Nat->Prop}{wt:Nat}{P:List Nd->Nat->Prop}{d:Nd}{c w k:World}{e:Ending}(b:Below c.heap.size c w)(f:a.length=N.length)(p:P (N++[d]) N.length)(q:1<=wt)(h:Qg g i j N a S d w e k):Mak g i j N a S wt P c e k:=by obtain⟨x,l,rfl,m,n,o⟩:=h;refine⟨N++[d],[x],N.length,x,l,rfl,?_,by simp,m,Goes.app _ _,by simp;omega,p,(KpM.of_below b).trans (n.mono b.size),(GrS.refl _ _).below o b⟩;rw[List.getD_eq_getElem?_getD,List.getElem?_append_right (by rw[f];exact Nat.le_refl _),f,Nat.sub_self];rfl
theorem KO(N:List Nd)(d:Nd):(N++[d])[N.length]?=S d:=by simp
theorem Mak.then1{b c f:Nat}{N a:List Nd}{g y:List (Nat×Nat×Nat)}{S j:Nat->Prop}{wt wt1:Nat}{P:List Nd->Nat->Prop}{d:Nd}{w i m:World}{e:Ending}(u:w.heap[b]?=some (Qd c (.map (some f)) N.length))(v:i.heap[b]?=some (Qd c (.map (some f)) a.length))(t:Goes N a)(l:(g++y).length=a.length)(z:a.length<=N.length+wt1)(k:KpM [b] w.heap.size w i)(s:GrS w S j)(r:P (a++[d]) a.length)(A:wt1+1<=wt)(h:Qg b c f a (g++y) j d i e m):Mak b c f N g S wt P w e m:=by obtain⟨x,n,rfl,o,p,q⟩:=h;refine⟨a++[d],y++[x],a.length,x,n,rfl,?_,by simp,by rw[<-List.append_assoc];exact o,t.trans (Goes.app _ _),by simp;omega,r,k.go p,s.trans q u ⟨_,v⟩ (Up.of_kpM k)⟩;rw[<-List.append_assoc,List.getD_eq_getElem?_getD,List.getElem?_append_right (by rw[l];exact Nat.le_refl _),l,Nat.sub_self];rfl
theorem zbq{N c:List Nd}(g:Goes N c){a:List z7}{i:Nat}{p:zC}{b:UInt8}(h:DnI N a i p b):DnI c a i p b:=by
 have e:DnT N a i (.mk 0 p b):=by simp only[DnT];exact⟨i,by simp,h⟩
 have d:=DnT.goes g _ e;simp only[DnT]at d;obtain⟨l,f,j⟩:=d;have k:i=l:=by simpa using f
 subst k;exact j
def zaL(k:Nat):Prop:=∀(w:World) (a d b:Nat) (N:List Nd) (c:List (Nat×Nat×Nat)) (S:Nat->Prop) (e:List z7) (A:Nat->Prop) (p:zC) (v:Value),Mk w a d b N c S->Zd w b e->zp w A p v->(∀g,A g->g≠a)->Y6 p<=k->okP p->N.length+(2 *wtP p+1)<=100000000->wtP p<=500000->Calls P 199 #[z9 a,v] w (Mak a d b N c S (2 *wtP p+1) (λf n=>DnP f e n p) w)
def zaK(k:Nat):Prop:=∀(w:World) (c f d:Nat) (N:List Nd) (e:List (Nat×Nat×Nat)) (S:Nat->Prop) (h:List z7) (A:Nat->Prop) (a:UInt8) (p:zC) (b:UInt8) (v:Value),Mk w c f d N e S->Zd w d h->zp w A p v->(∀g,A g->g≠c)->Y6 p<=k->okT (.mk a p b)->N.length+(2 *wtP p+3)<=100000000->wtP p<=500000->Calls P 190 #[z9 c,QN (.mk a p b) v] w (Mak c f d N e S (2 *wtP p+3) (λi n=>DnI i h n p b) w)
def zaN(k:Nat):Prop:=∀(w:World) (a d b:Nat) (N:List Nd) (c:List (Nat×Nat×Nat)) (S:Nat->Prop) (e:List z7) (A:Nat->Prop) (t:Term) (v:Value),Mk w a d b N c S->Zd w b e->Zk w A t v->(∀g,A g->g≠a)->Jx t<=k->okT t->N.length+2 *wtT t<=100000000->wtT t<=500000->Calls P 174 #[z9 a,QN t v] w (Mak a d b N c S (2 *wtT t) (λf n=>DnT f e n t) w)
def zaM(k:Nat):Prop:=∀(w:World) (a f b:Nat) (N:List Nd) (d:List (Nat×Nat×Nat)) (S:Nat->Prop) (h:List z7) (A:Nat->Prop) (s:List Term) (u:Value),Mk w a f b N d S->Zd w b h->QX w A s u->(∀g,A g->g≠a)->YO s<=k->okS s->N.length+2 *wtS s<=100000000->wtS s<=500000->Calls P 149 #[z9 a,u] w (Mak a f b N d S (2 *wtS s) (λc n=>∃e,c[n]?=some (.seq e)/\DnS c h e s) w)
def qv(k:Nat):Prop:=∀(w:World) (a e b:Nat) (N:List Nd) (d:List (Nat×Nat×Nat)) (S:Nat->Prop) (f:List z7) (A:Nat->Prop) (c:List (List Term)) (u:Value),Mk w a e b N d S->Zd w b f->Zt w A c u->(∀g,A g->g≠a)->Qt c<=k->okC c->N.length+2 *wtC c<=100000000->wtC c<=500000->Calls P 119 #[z9 a,u] w (Mak a e b N d S (2 *wtC c) (λh n=>DnP h f n (.group c)) w)
def Qx:List Term->Nat
 |[]=>0
 |t::s=>1+wtT t+Qx s
def Qa:List (List Term)->Nat
 |[]=>0
 |s::c=>3+wtS s+Qa c
theorem zd2:∀s:List Term,wtS s=Qx s+2
 |[]=>rfl
 |t::s=>by have:=zd2 s;simp only[wtS,Qx];omega
theorem zcZ:∀c:List (List Term),c≠[]->wtC c=Qa c
 |[],h=>absurd rfl h
 |[s],_=>by simp only[wtC,Qa];omega
 |s::a::c,_=>by have:=zcZ (a::c) (by simp);simp only[wtC,Qa]at *;omega
theorem zd3:∀(s:List Term) (t:Term),Qx (s++[t])=Qx s+(1+wtT t)
 |[],t=>by simp[Qx]
 |u::s,t=>by have:=zd3 s t;simp only[List.cons_append,Qx];omega
theorem zd0:∀(c:List (List Term)) (s:List Term),Qa (c++[s])=Qa c+(3+wtS s)
 |[],t=>by simp[Qa]
 |u::c,s=>by have:=zd0 c s;simp only[List.cons_append,Qa];omega
theorem zj1(s:List Term)(j:Nat)(a:j<s.length):Qx (s.take (j+1))=Qx (s.take j)+(1+wtT s[j]):=by rw[List.take_succ_eq_append_getElem a,zd3]
theorem zj0(c:List (List Term))(j:Nat)(a:j<c.length):Qa (c.take (j+1))=Qa (c.take j)+(3+wtS c[j]):=by rw[List.take_succ_eq_append_getElem a,zd0]
theorem zd1:∀(s t:List Term),Qx (s++t)=Qx s+Qx t
 |[],t=>by simp[Qx]
 |u::s,t=>by have:=zd1 s t;simp only[List.cons_append,Qx];omega
theorem zcY:∀(s t:List (List Term)),Qa (s++t)=Qa s+Qa t
 |[],t=>by simp[Qa]
 |u::s,t=>by have:=zcY s t;simp only[List.cons_append,Qa];omega
theorem zaw(s:List Term)(j:Nat):Qx (s.take j)<=Qx s:=by
 conv=>rhs;rw[<-List.take_append_drop j s]
 rw[zd1];omega
theorem zav(s:List (List Term))(j:Nat):Qa (s.take j)<=Qa s:=by
 conv=>rhs;rw[<-List.take_append_drop j s]
 rw[zcY];omega
theorem zd4:∀(s:List Term),s.length<=Qx s
 |[]=>by simp
 |t::s=>by have:=zd4 s;simp only[Qx,List.length_cons];omega
theorem q9:∀(c:List (List Term)),c.length<=Qa c
 |[]=>by simp
 |t::s=>by have:=q9 s;simp only[Qa,List.length_cons];omega
theorem zbX:∀{s:List Term},okS s->∀(j:Nat) (a:j<s.length),okT s[j]
 |t::s,h,0,_=>by simp only[okS]at h;exact h.1
 |t::s,h,j+1,a=>by simp only[okS]at h;exact zbX h.2 j (by simpa using a)
theorem zbW:∀{c:List (List Term)},okC c->∀(j:Nat) (a:j<c.length),okS c[j]
 |t::s,h,0,_=>by simp only[okC]at h;exact h.1
 |t::s,h,j+1,a=>by simp only[okC]at h;exact zbW h.2 j (by simpa using a)
end
section
open Go.RowKit
attribute [local go_sem ↓] Go.wp_at_zero Go.wp_at_succ
theorem Uo{b c e:Nat}{N:List Nd}{a:List (Nat×Nat×Nat)}{n:Nat}{x:Nat×Nat×Nat}{S:Nat->Prop}{d:Nd}{F:FuncId}{w:World}(f:x=a.getD n (0,0,0))(h:Calls P F #[z9 b,clV a n] w (Qg b c e N a S d w)):Calls P F #[z9 b,zT x] w (Qg b c e N a S d w):=by rw[f];exact h
theorem zfx(k:Nat)(hP:zaL k):zaK k:=by
 intro w kb mb nb a6 bx S m A a p b v h a0 W hA hk U hN hw;obtain⟨vt,vx,rfl⟩:=zp.oneCell W;simp only[okT]at U;simp only[QN,Term.ahead,Term.behind];have J:=z6 (λO=>hP (w.alloc O) kb mb nb a6 bx S m A p (.iface vt vx) (h.below (zc w O)) (a0.below (zc w O)) (zp.kept (ZF (zc w O)) p _ W) hA hk U.2.2 (by omega) hw);have R:=zd h.blk;have a7:=U.2.1;have H:=z6 hN;have G:=z6 h.blk;clear h a0 W U hP hk hN hA;rcases a7 with rfl|rfl|rfl|rfl;·go_enter func190,ntmps190;go_wp2_with fail;refine(J.out _).mono ?_;rintro _ u⟨d,y,n,x,K,rfl,g,t,c,s,E,hd,e,f⟩;have X:u.cell? ⟨w.heap.size,2,N⟩=some (I .u8 0):=z8 (KpM.own (by simpa using R) e) 2;have j:=z6 e.alloc;have B:=z6 ((GrS.refl _ _).below f (zc w _));have o:=z6 c.blk;have q:Hid (DnI d m n p 0):=z6 ⟨n,by simp,hd⟩;have HX:=z6 g;clear e hd o g;go_wp2_with fail;go_ret;exact⟨d,y,n,x,K,rfl,HX.out,t,c,s,by omega,q.out,j.out,(GrS.refl _ _).below f (zc _ _)⟩
 ·go_enter func190,ntmps190;go_wp2_with fail;refine(J.out _).mono ?_;rintro _ u⟨d,y,n,x,K,rfl,g,t,c,s,E,hd,e,f⟩;have X:u.cell? ⟨w.heap.size,2,N⟩=some (I .u8 63):=z8 (KpM.own (by simpa using R) e) 2;have j:=z6 e.alloc;have B:=z6 ((GrS.refl _ _).below f (zc w _));have o:=z6 c.blk;have i:=z6 (Uo g (zbQ c (by have:=H.out;omega) n t));have q:Hid (DnI (d++[Nd.maybe n]) m d.length p 63):=z6 ⟨n,by simp,DnP.goes (Goes.app _ _) p hd⟩;have z:=z6 c.len;clear e hd c g f;simp only[zT]at i|-;go_wp2_with fail;refine i.out.mono ?_;rintro _ w2 l;have F:=Mak.then1 (wt:=2 *wtP p+3) (P:=λD n=>DnI D m n p 63) G.out o.out s z.out E j.out B.out q.out (by omega) l;obtain⟨V,Z,rfl,r,L,M⟩:=l;go_wp2_with fail;go_ret;exact F
 ·go_enter func190,ntmps190;go_wp2_with fail;refine(J.out _).mono ?_;rintro _ u⟨d,y,n,x,K,rfl,g,t,c,s,E,hd,e,f⟩;have X:u.cell? ⟨w.heap.size,2,N⟩=some (I .u8 42):=z8 (KpM.own (by simpa using R) e) 2;have j:=z6 e.alloc;have B:=z6 ((GrS.refl _ _).below f (zc w _));have o:=z6 c.blk;have i:=z6 (Uo g (zc7 c (by have:=H.out;omega) n t));have q:Hid (DnI (d++[Nd.plus n]++[Nd.maybe d.length]) m (d++[Nd.plus n]).length p 42):=z6 ⟨n,by rw[if_neg (by decide),if_neg (by decide),if_neg (by decide)];exact⟨d.length,by simp,by simp⟩,DnP.goes ((Goes.app _ _).trans (Goes.app _ _)) p hd⟩
  have z:=z6 c.len;clear e hd c g f;simp only[zT]at i|-;go_wp2_with fail;refine i.out.mono ?_;rintro _ w2⟨V,Z,rfl,r,L,M⟩;have a3:=z6 (j.out.go L);have a2:=z6 r.blk;have a5:=z6 (B.out.trans M G.out ⟨_,o.out⟩ (Up.of_kpM j.out));have a1:V=(bx++(y++[V])).getD d.length (0,0,0):=by rw[<-List.append_assoc,List.getD_eq_getElem?_getD,List.getElem?_append_right (by rw[z.out];exact Nat.le_refl _),z.out,Nat.sub_self];rfl
  rw[List.append_assoc]at r;have Y:=z6 (Uo a1 (zbQ r (by have:=H.out;simp;omega) d.length (by simp)));have a4:=z6 r.len;clear r L M a1 i;simp only[zT]at Y|-;go_wp2_with fail;refine Y.out.mono ?_;rintro _ w3 l;have F:=Mak.then1 (wt:=2 *wtP p+3) (wt1:=2 *wtP p+2) (P:=λD n=>DnI D m n p 42) G.out a2.out (s.trans (Goes.app _ _)) a4.out (by simp;omega) a3.out a5.out q.out (by omega) l;obtain⟨x3,S3,rfl,_,_,_⟩:=l;go_wp2_with fail;go_ret;exact F
 ·go_enter func190,ntmps190;go_wp2_with fail;refine(J.out _).mono ?_;rintro _ u⟨d,y,n,x,K,rfl,g,t,c,s,E,hd,e,f⟩;have X:u.cell? ⟨w.heap.size,2,N⟩=some (I .u8 43):=z8 (KpM.own (by simpa using R) e) 2;have j:=z6 e.alloc;have B:=z6 ((GrS.refl _ _).below f (zc w _));have o:=z6 c.blk;have i:=z6 (Uo g (zc7 c (by have:=H.out;omega) n t));have q:Hid (DnI (d++[Nd.plus n]) m d.length p 43):=z6 ⟨n,by rw[if_neg (by decide),if_neg (by decide),if_pos rfl];simp,DnP.goes (Goes.app _ _) p hd⟩;have z:=z6 c.len;clear e hd c g f;simp only[zT]at i|-;go_wp2_with fail;refine i.out.mono ?_;rintro _ w2 l;have F:=Mak.then1 (wt:=2 *wtP p+3) (P:=λD n=>DnI D m n p 43) G.out o.out s z.out E j.out B.out q.out (by omega) l;obtain⟨V,Z,rfl,r,L,M⟩:=l;go_wp2_with fail;go_ret;exact F
end
end Go.Proofs.YtiganlkabilblaaGreatDoor
