import Derived.Test.YtiganlkabilblaaGreatDoorV19
import Derived.BigQuiet
set_option linter.all false
set_option maxHeartbeats 64000000
set_option maxRecDepth 100000
namespace Go.Proofs.YtiganlkabilblaaGreatDoor
open Tryz
open Tryz renaming prog->P
open Option renaming some->S,none->N
open Value renaming int->I
open IntKind renaming i64->J
section
open Go.RowKit
attribute [local go_sem ↓] Go.wp_at_zero Go.wp_at_succ
theorem zfw(p l:List UInt8):p.isPrefixOf l=(l.take p.length==p):=by
 induction p generalizing l with
 |nil=>simp
 |cons a p g=>
  cases l with
  |nil=>simp
  |cons b l=>
   simp only[List.isPrefixOf,List.length_cons,List.take_succ_cons,g];by_cases h:a=b;·subst h;simp
   ·have f:¬b=a:=λe=>h e.symm;have c:(a==b)=false:=by simp[h]
    have d:(b==a)=false:=by simp[f]
    simp only[c,Bool.false_and];show false=((b::l.take p.length)==(a::p));simp[d]
theorem zfd(s p:ByteArray)(w:World)(i:s.size<=1000000)(g:p.size<=1000000):Calls P 156 #[.string s,.string p] w λe f=>e=.returned (.bool (p.data.toList.isPrefixOf s.data.toList))/\f=w:=by
 have b:p.data.toList.length=p.size:=rfl;rw[zfw,b];by_cases h:p.size<=s.size
 ·have a:(s.extract 0 p.size).toList=s.data.toList.take p.size:=by have:=Vx s 0 p.size;rw[Nat.zero_add]at this;rw[this];simp[ByteArray.toList_eq]
  have hd:(p.size:Int)<=s.size:=by omega
  go_enter func156,ntmps156;go_wp2;go_ret;refine⟨?_,rfl⟩;show Ending.returned (Value.bool (List.take p.size s.data.toList==p.toList))=_;rw[ByteArray.toList_eq]
 ·have a:(s.data.toList.take p.size==p.data.toList)=false:=by rw[beq_eq_false_iff_ne];intro c;have:=congrArg List.length c;have d:s.data.toList.length=s.size:=rfl;simp[d,b]at this;omega
  rw[a];have hd:¬(p.size:Int)<=s.size:=by omega
  go_enter func156,ntmps156;go_wp2;go_ret;exact⟨rfl,rfl⟩
theorem zfl{d:World}{c u:Nat}{g:List Nd}{v:List (Nat×Nat×Nat)}{rules:List Nat}{l:Value}{s:ByteArray}(M:Mde d c g v rules l)(b:z7)(n o:Nat)(p:d.heap[n]?=S (zh (z9 c) 113))(q:d.heap[o]?=S (zh (.string ⟨b.toArray⟩) 9))(B:b.length<=20)(G:s.size<=1000000)(k:Nat)(E:k<=s.size)(w:World)(h:MS d c u g rules l s .nil w):Calls P 216 #[I J k,z9 n,z9 o] w (Ye d c u g rules l s .nil (Ya s.data.toList k b) w):=by
 have i:=h.box M p;have O:=z8 i;have H:=za i;have j:=h.box M q;have R:=z8 j;have K:=za j;have U:w.cell? ⟨c,1,N⟩=S (.string s):=z8 h.blk 1;have L:=zd h.blk;have A:=z6 (And.intro h.size (And.intro h.tlt h.mlt));have m:=z6 h;have r:=UH s k;have x:(ByteArray.mk b.toArray).size=b.length:=by show b.toArray.size=_;simp
 have a:∀W,Calls P 156 #[.string (s.extract k s.size),.string ⟨b.toArray⟩] W λe y=>e=.returned (.bool (b.isPrefixOf (s.data.toList.drop k)))/\y=W:=λW=>by
  have D:(s.extract k s.size).size=s.size-k:=by simp
  have:=zfd (s.extract k s.size) ⟨b.toArray⟩ W (by omega) (by rw[x];omega);rw[r]at this;simpa using this
 have F:(k:Int)<=s.size:=by omega
 clear h p q M i j r;unfold Ya;cases t:b.isPrefixOf (s.data.toList.drop k)with
 |true=>
  rw[t]at a;have f:=z6 a;clear a;simp only[if_true];go_enter func216,ntmps216;go_wp2_with fail;go_region_with(go_at_call 156;refine(f.out _).mono ?_;rintro e z⟨rfl,rfl⟩);all_goals go_wp2_with fail
  all_goals refine bodyPost_ret (results_cell_row rfl _ _ w.heap.size _ _ _ _ rfl (zk w _) underlying229 rfl (by kernel_rfl)) rfl ?_;exact⟨by simp[zN],m.out.below (zc w _).drew,KpM.of_below (zc w _).drew⟩
 |false=>
  rw[t]at a;have f:=z6 a;clear a;simp only[Bool.false_eq_true,if_false];go_enter func216,ntmps216;go_wp2_with fail;go_region_with(go_at_call 156;refine(f.out _).mono ?_;rintro e z⟨rfl,rfl⟩);all_goals go_wp2_with fail
  all_goals refine bodyPost_ret (results_cell_row rfl _ _ w.heap.size _ _ _ _ rfl (zk w _) underlying229 rfl (by kernel_rfl)) rfl ?_;exact⟨by simp[zN],m.out.below (zc w _).drew,KpM.of_below (zc w _).drew⟩
theorem zdN(w:World)(c:Value):Calls P 211 #[c] w λe a=>e=.returned (.bool true)/\Below w.heap.size w a:=by go_enter func211,ntmps211;go_wp2_with fail;go_ret;exact⟨rfl,Below.refl _ _⟩
theorem zjy(w:World)(a c b:UInt8)(k:Nat)(h:w.heap[k]?=S (zh (I .u8 b.toNat) 5)):Calls P 219 #[.agg #[I .u8 a.toNat,I .u8 c.toNat],z9 k] w λe p=>e=.returned (.bool (decide (a<=b)&&decide (b<=c)))/\Below w.heap.size w p:=by
 have q:=z8 h;have l:=za h;clear h;by_cases f:a<=b
 ·have i:(a.toNat:Int)<=(b.toNat:Int):=by have:=UInt8.le_iff_toNat_le.mp f;omega
  by_cases g:b<=c
  ·have j:(b.toNat:Int)<=(c.toNat:Int):=by have:=UInt8.le_iff_toNat_le.mp g;omega
   have d:(decide (a<=b)&&decide (b<=c))=true:=by simp[f,g]
   rw[d];have m:decide ((a.toNat:Int)<=(b.toNat:Int))=true:=decide_eq_true i;have n:decide ((b.toNat:Int)<=(c.toNat:Int))=true:=decide_eq_true j;clear f g d;go_enter func219,ntmps219;go_wp2_with fail;go_ret;exact⟨rfl,zc _ _⟩
  ·have j:¬(b.toNat:Int)<=(c.toNat:Int):=by intro e;exact g (UInt8.le_iff_toNat_le.mpr (by omega))
   have d:(decide (a<=b)&&decide (b<=c))=false:=by simp[g]
   rw[d];have m:decide ((a.toNat:Int)<=(b.toNat:Int))=true:=decide_eq_true i;have n:decide ((b.toNat:Int)<=(c.toNat:Int))=false:=decide_eq_false j;have o:decide (b.toNat<=c.toNat)=false:=decide_eq_false (by omega);clear f g d;go_enter func219,ntmps219;go_wp2_with fail;go_ret;exact⟨rfl,zc _ _⟩
 ·have i:¬(a.toNat:Int)<=(b.toNat:Int):=by intro e;exact f (UInt8.le_iff_toNat_le.mpr (by omega))
  have d:(decide (a<=b)&&decide (b<=c))=false:=by simp[f]
  rw[d];have m:decide ((a.toNat:Int)<=(b.toNat:Int))=false:=decide_eq_false i;have o:decide (a.toNat<=b.toNat)=false:=decide_eq_false (by omega);clear f d;go_enter func219,ntmps219;go_wp2_with fail;go_ret;exact⟨rfl,zc _ _⟩
theorem zfi(l:List zR)(b:UInt8)(i:Nat)(h:i<l.length):Q7 (l.drop i) b=((decide (l[i].1<=b)&&decide (b<=l[i].2))||Q7 (l.drop (i+1)) b):=by rw[List.drop_eq_getElem_cons h];rfl
theorem zfr(w:World)(u:Value)(l:List zR)(b:UInt8)(j:Nat)(t:Qr w 0 u l)(O:l.length<=100000)(h:w.heap[j]?=S (zh (I .u8 b.toNat) 5)):Calls P 222 #[u,.func (.func 219) #[] #[z9 j]] w λe G=>∃r:Int,e=.returned (I J r)/\decide (0<=r)=Q7 l b/\Below w.heap.size w G:=by
 obtain⟨U,V,rfl⟩:=zl t;have E:=z6 t;have x:=z6 h;have n:∃R,R=Q7 l b:=⟨_,rfl⟩;obtain⟨R,c⟩:=n;rw[<-c];have n:Hid (R=Q7 (l.drop 0) b):=z6 c;clear t h c;go_enter func222,ntmps222;go_wp2_with fail;go_loopg[8] l.length (λm v wr=>∃i:Nat,m=l.length-i/\v=I J i/\i<=l.length/\Hid (Below w.heap.size w wr)/\Hid (R=Q7 (l.drop i) b));case atStart=>exact⟨0,by omega,rfl,by omega,z6 (Below.refl _ _),n⟩
 case round=>
  obtain⟨i,rfl,rfl,M,a,f⟩:=hrel;by_cases s:i<l.length
  ·have F:(i:Int)<l.length:=by omega
   obtain⟨g,rfl,o,B⟩:=Jk E.out (by omega);have K:wr.cell? ⟨g,i *2,N⟩=S (I .u8 l[i].1.toNat):=by rw[a.out.cell (p:=⟨g,_,N⟩) B,o _ (by omega)];have:=q6 l i 0 s (by decide);exact this
   have L:wr.cell? ⟨g,i *2+1,N⟩=S (I .u8 l[i].2.toNat):=by rw[a.out.cell (p:=⟨g,_,N⟩) B,o _ (by omega)];have:=q6 l i 1 s (by decide);exact this
   have A:wr.heap[j]?=S (zh (I .u8 b.toNat) 5):=by rw[a.out.block _ (zd x.out)];exact x.out
   have D:=zjy wr l[i].1 l[i].2 b j A;have q:=f.out;rw[zfi l b i s]at q;generalize (decide (l[i].1<=b)&&decide (b<=l[i].2))=ok at *;have z:=z6 D;have y:=z6 q;clear D q A o f;cases ok with
   |true=>go_wp2_with fail;refine z.out.mono ?_;rintro _ H⟨rfl,d⟩;have k:=z6 (a.out.trans (d.mono a.out.size));clear d;go_wp2_with fail;go_ret;refine⟨i,rfl,?_,k.out⟩;have:=y.out;rw[Bool.true_or]at this;rw[this];exact decide_eq_true (by omega)
   |false=>
    go_wp2_with fail;refine z.out.mono ?_;rintro _ H⟨rfl,d⟩;have k:=z6 (a.out.trans (d.mono a.out.size));clear d;go_wp2_with fail;go_roundg (l.length-(i+1));case measure=>omega
    case rel=>exact⟨i+1,rfl,by go_num,by omega,k,by have:=y.out;rw[Bool.false_or]at this;exact z6 this⟩
  ·have F:¬(i:Int)<l.length:=by omega
   have c:R=false:=by have:=f.out;rw[List.drop_eq_nil_of_le (by omega)]at this;simpa[Q7]using this
   subst c;clear f;go_wp2_with fail;go_ret;exact⟨-1,rfl,by decide,a.out⟩
theorem zev(w:World)(u:Value)(l:List zR)(b:UInt8)(a:Nat)(c:Qr w 0 u l)(g:l.length<=100000)(h:w.heap[a]?=S (zh (I .u8 b.toNat) 5)):Calls P 218 #[u,.func (.func 219) #[] #[z9 a]] w λe j=>e=.returned (.bool (Q7 l b))/\Below w.heap.size w j:=by have d:=z6 (zfr w u l b a c g h);clear c h;go_enter func218,ntmps218;go_wp2_with fail;refine d.out.mono ?_;rintro _ k⟨r,rfl,i,f⟩;go_wp2_with fail;go_ret;exact⟨by rw[<-i];rfl,f⟩
theorem zes(w:World)(u:Value)(l:List zR)(b:UInt8)(d:Nat)(c:w.heap[d]?=S (zh u 235))(a:Qr w 0 u l)(k:l.length<=100000):Calls P 217 #[I .u8 b.toNat,z9 d] w λe m=>e=.returned (.bool (Q7 l b))/\Below w.heap.size w m:=by have q:=z8 c;have n:=za c;have f:Qr (w.alloc (zh (I .u8 b.toNat) 5)) 0 u l:=Z6 a (λg j=>zm _ _ (a.lt g j).2);have h:=z6 (zev _ u l b w.heap.size f k (zk w _));obtain⟨o,p,rfl⟩:=zl a;clear a f c;go_enter func217,ntmps217;go_wp2_with fail;refine h.out.mono ?_;rintro _ r⟨rfl,i⟩;go_wp2_with fail;go_ret;exact⟨rfl,(zc w _).trans (i.mono (by simp))⟩
end
end Go.Proofs.YtiganlkabilblaaGreatDoor
