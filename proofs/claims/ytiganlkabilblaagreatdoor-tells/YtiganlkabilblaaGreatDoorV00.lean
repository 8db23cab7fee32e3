import Derived.Test.YtiganlkabilblaaGreatDoorProg
import Derived.WalkKit
import Derived.WalkLawsBesides
import Derived.WalkSpells
import Derived.Lib.Bytealg
import Derived.Maps.AppendAt
set_option linter.all false
set_option maxHeartbeats 64000000
set_option maxRecDepth 100000
namespace Go.Proofs.YtiganlkabilblaaGreatDoor
open Tryz
open Tryz renaming prog->P
open Option renaming some->S,none->N
open Value renaming int->I
open IntKind renaming i64->J
abbrev z7:=List UInt8
def Qu(c:UInt8):Bool:=97<=c&&c<=122
def Y9(c:UInt8):Bool:=c==32||c==9||c==10||c==13
def Z4:z7->Nat
 |[]=>0
 |c::t=>if c=10 then 0 else Z4 t+1
def blk:Bool->z7->Nat
 |_,[]=>0
 |true,c::t=>if c=10 then blk false t+1 else blk true t+1
 |false,c::t=>if Y9 c then blk false t+1 else if c=35 then blk true t+1 else 0
def ZQ:z7->Nat
 |[]=>0
 |c::t=>if Qu c then ZQ t+1 else 0
def YP(m:z7):z7->Option (UInt8×Nat)
 |[]=>N
 |d::_=>if d=110 then S (10,2)else if d=116 then S (9,2)else if d=92||m.contains d then S (d,2)else N
def Zh(m:z7):z7->Option (UInt8×Nat)
 |[]=>N
 |c::t=>if c=92 then YP m t else if c=10||m.contains c then N else S (c,1)
def Yk(m:z7):Nat->z7->z7×Nat
 |0,_=>([],0)
 |f+1,l=>match Zh m l with
  |none=>([],0)
  |some (c,n)=>(c::(Yk m f (l.drop n)).1,n+(Yk m f (l.drop n)).2)
def Qc(m:z7)(l:z7):z7×Nat:=Yk m l.length l
abbrev zR:=UInt8×UInt8
def ZT(l:z7):Option (zR×Nat):=
 match Zh [93,45] l with
 |none=>none
 |some (lo,n)=>
  if l[n]?=some 45 then
   match Zh [93,45] (l.drop (n+1))with
   |none=>none
   |some (hi,k)=>if lo<=hi then some ((lo,hi),n+1+k)else none
  else some ((lo,lo),n)
def Yo:Nat->z7->List zR×Nat
 |0,_=>([],0)
 |f+1,l=>match ZT l with
  |none=>([],0)
  |some (c,n)=>(c::(Yo f (l.drop n)).1,n+(Yo f (l.drop n)).2)
def QL(l:z7):List zR×Nat:=Yo l.length l
inductive TK where
 |fin|bad|name|arrow|lit|cls|sign (c:UInt8)
structure Tok where
 kind:TK
 place:Nat
 size:Nat
 text:z7
 spans:List zR
def Qf(c:UInt8):Bool:=[47,38,33,63,42,43,40,41,46].contains c
def zB:Tok:=⟨.bad,0,0,[],[]⟩
def ZX(l:z7)(n:Nat)(b:UInt8)(a:Nat):Bool:=l[n]?==S b&&decide (1<=a)&&decide (a<=20)
def Ql(l:z7):Tok:=if 12<ZQ l then zB else⟨.name,0,ZQ l,l.take (ZQ l),[]⟩
def Qv(t:z7):Tok:=if ZX t (Qc [39] t).2 39 (Qc [39] t).1.length then⟨.lit,0,(Qc [39] t).2+2,(Qc [39] t).1,[]⟩else zB
def QB(t:z7):Tok:=if ZX t (QL t).2 93 (QL t).1.length then⟨.cls,0,(QL t).2+2,[],(QL t).1⟩else zB
def zM:z7->Tok
 |[]=>⟨.fin,0,0,[],[]⟩
 |c::t=>if Qu c then Ql (c::t)else if c=60/\t.head?=S 45 then⟨.arrow,0,2,[],[]⟩else if c=39 then Qv t else if c=91 then QB t else if Qf c then⟨.sign c,0,1,[],[]⟩else zB
def TK.isArrow:TK->Bool
 | .arrow=>true
 |_=>false
def TK.last:TK->Bool
 | .fin=>true
 | .bad=>true
 |_=>false
def QC:Nat->Nat->z7->List Tok
 |0,_,_=>[]
 |f+1,a,l=>{zM (l.drop (blk false l))with place:=a+blk false l}::(if (zM (l.drop (blk false l))).kind.last then[]else QC f (a+blk false l+(zM (l.drop (blk false l))).size) ((l.drop (blk false l)).drop (zM (l.drop (blk false l))).size))
def Qn(l:z7):List Tok:=QC (l.length+1) 0 l
mutual
inductive zC where
  |name (b:z7)
  |lit (b:z7)
  |cls (l:List zR)
  |any
  |group (c:List (List Term))
inductive Term where
  |mk (ahead:UInt8) (p:zC) (behind:UInt8)
 end
abbrev Seq:=List Term
abbrev Z5:=List Seq
inductive Res(α:Type) where
 |ok (a:α) (rest:List Tok)
 |err (e p:Nat)
def Res.map{α β:Type}(f:α->β):Res α->Res β
 | .ok a b=>.ok (f a) b
 | .err e p=>.err e p
def hd(a:List Tok):Tok:=a.headD zB
def zX(d:Nat)(a:List Tok):Bool:=match (hd a).kind with| .name=> !(d==0&&(hd a.tail).kind.isArrow)| .lit=>true| .cls=>true| .sign c=>c==38||c==33||c==46||c==40|_=>false
def Z9(a:List Tok):UInt8×List Tok:=match (hd a).kind with| .sign c=>if c=38\/c=33 then(c,a.tail)else(0,a)|_=>(0,a)
def Zg(a:List Tok):UInt8×List Tok:=match (hd a).kind with| .sign c=>if c=63\/c=42\/c=43 then(c,a.tail)else(0,a)|_=>(0,a)
def zU(t:Tok):Option zC:=match t.kind with| .name=>S (.name t.text)| .lit=>S (.lit t.text)| .cls=>S (.cls t.spans)| .sign c=>if c=46 then S .any else N|_=>N
mutual
inductive Qi:Nat->List Tok->Res zC->Prop
  |plain {d ts p}:zU (hd ts)=some p->Qi d ts (.ok p ts.tail)
  |bad {d ts}:zU (hd ts)=none->(hd ts).kind≠.sign 40->Qi d ts (.err 2 (hd ts).place)
  |deep {ts}:(hd ts).kind=.sign 40->Qi 6 ts (.err 3 (hd ts).place)
  |group {d ts c rest}:(hd ts).kind=.sign 40->d≠6->Z8 (d+1) ts.tail (.ok c rest)->(hd rest).kind=.sign 41->Qi d ts (.ok (.group c) rest.tail)
  |unclosed {d ts c rest}:(hd ts).kind=.sign 40->d≠6->Z8 (d+1) ts.tail (.ok c rest)->(hd rest).kind≠.sign 41->Qi d ts (.err 2 (hd rest).place)
  |inner {d ts e p}:(hd ts).kind=.sign 40->d≠6->Z8 (d+1) ts.tail (.err e p)->Qi d ts (.err e p)
inductive QF:Nat->List Tok->Res Term->Prop
  |ok {d ts p rest}:Qi d (Z9 ts).2 (.ok p rest)->QF d ts (.ok (.mk (Z9 ts).1 p (Zg rest).1) (Zg rest).2)
  |err {d ts e p}:Qi d (Z9 ts).2 (.err e p)->QF d ts (.err e p)
inductive ZW:Nat->List Tok->Res Seq->Prop
  |nil {d ts}:zX d ts=false->ZW d ts (.ok [] ts)
  |cons {d ts t rest s rest'}:zX d ts=true->QF d ts (.ok t rest)->ZW d rest (.ok s rest')->ZW d ts (.ok (t::s) rest')
  |err {d ts e p}:zX d ts=true->QF d ts (.err e p)->ZW d ts (.err e p)
  |later {d ts t rest e p}:zX d ts=true->QF d ts (.ok t rest)->ZW d rest (.err e p)->ZW d ts (.err e p)
inductive Z8:Nat->List Tok->Res Z5->Prop
  |last {d ts s rest}:ZW d ts (.ok s rest)->(hd rest).kind≠.sign 47->Z8 d ts (.ok [s] rest)
  |more {d ts s rest c rest'}:ZW d ts (.ok s rest)->(hd rest).kind=.sign 47->Z8 d rest.tail (.ok c rest')->Z8 d ts (.ok (s::c) rest')
  |err {d ts e p}:ZW d ts (.err e p)->Z8 d ts (.err e p)
  |later {d ts s rest e p}:ZW d ts (.ok s rest)->(hd rest).kind=.sign 47->Z8 d rest.tail (.err e p)->Z8 d ts (.err e p)
 end
structure ze where
 name:z7
 choice:Z5
inductive ZV:Nat->List Tok->Res ze->Prop
 |noName {n ts}:(hd ts).kind≠.name->ZV n ts (.err 2 (hd ts).place)
 |many {ts}:(hd ts).kind=.name->(hd ts.tail).kind=.arrow->ZV 20 ts (.err 4 (hd ts.tail).place)
 |noArrow {n ts}:(hd ts).kind=.name->(hd ts.tail).kind≠.arrow->ZV n ts (.err 2 (hd ts.tail).place)
 |ok {n ts c rest}:(hd ts).kind=.name->(hd ts.tail).kind=.arrow->n≠20->Z8 0 ts.tail.tail (.ok c rest)->ZV n ts (.ok ⟨(hd ts).text,c⟩ rest)
 |err {n ts e p}:(hd ts).kind=.name->(hd ts.tail).kind=.arrow->n≠20->Z8 0 ts.tail.tail (.err e p)->ZV n ts (.err e p)
inductive ZU:Nat->List Tok->Except (Nat×Nat) (List ze)->Prop
 |last {n ts r rest}:ZV n ts (.ok r rest)->(hd rest).kind=.fin->ZU n ts (.ok [r])
 |more {n ts r rest g}:ZV n ts (.ok r rest)->(hd rest).kind≠.fin->ZU (n+1) rest (.ok g)->ZU n ts (.ok (r::g))
 |err {n ts e p}:ZV n ts (.err e p)->ZU n ts (.error (e,p))
 |later {n ts r rest x}:ZV n ts (.ok r rest)->(hd rest).kind≠.fin->ZU (n+1) rest (.error x)->ZU n ts (.error x)
section
open Go.RowKit
theorem zfv(c:UInt8):Qu c=(decide ((97:Int)<=c.toNat)&&decide ((c.toNat:Int)<=122)):=by unfold Qu;rw[Bool.eq_iff_iff];simp[UInt8.le_iff_toNat_le];omega
theorem YD(c:UInt8)(w:World):Calls P 154 #[I .u8 c.toNat] w λe a=>e=.returned (.bool (Qu c))/\a=w:=by
 rw[zfv];go_enter func154,ntmps154;go_wp2;all_goals go_ret
 ·have h:(97:Int)<=c.toNat:=by assumption
  exact⟨by simp[h],rfl⟩
 ·have h:¬(97:Int)<=c.toNat:=by omega
  exact⟨by simp[h],rfl⟩
theorem za3(s:ByteArray)(c:Int)(w:World):Calls P 159 #[.string s,I .u8 c] w λe a=>e=.returned (I J (Lib.indexByte s.data.toList c.toNat.toUInt8))/\a=w:=by have b:=@run_callFunc_extern P 194 _ Extern.BytealgIndexByte.indexByte func194 (by kernel_rfl) (by kernel_rfl) (by kernel_rfl) (by kernel_rfl);have d:=@Lib.run_indexByteString P;go_enter func159,ntmps159;go_wp2;go_ret;exact⟨rfl,rfl⟩
theorem zbI(s:ByteArray)(c:Int)(w:World)(j:Int)(h:Lib.indexByte s.data.toList c.toNat.toUInt8=j):Calls P 159 #[.string s,I .u8 c] w λe a=>e=.returned (I J j)/\a=w:=h▸za3 s c w
theorem zfq(l:List UInt8):(Lib.indexByte l 10= -1/\Z4 l=l.length)\/(Lib.indexByte l 10=Z4 l/\Z4 l<l.length):=by
 induction l with
 |nil=>left;simp[Lib.indexByte,Z4]
 |cons b l e=>
  by_cases d:b=10;·right;simp[Lib.indexByte,Z4,d]
  ·rcases e with⟨a,c⟩|⟨a,c⟩;·left;simp[Lib.indexByte,Z4,d,a,c]
   ·right;have:¬((Z4 l:Int)= -1):=by omega
    simp[Lib.indexByte,Z4,d,a,c,this]
theorem UH(s:ByteArray)(k:Nat):(s.extract k s.size).data.toList=s.data.toList.drop k:=by rw[ByteArray.data_extract,Array.toList_extract,List.extract_eq_take_drop];exact List.take_of_length_le (by rw[List.length_drop];exact Nat.le_refl _)
theorem zfM(s:ByteArray)(k:Nat)(w:World)(i:k<=s.size)(j:s.size<=2000):Calls P 153 #[.string s,I J k] w λe g=>e=.returned (I J ↑(k+Z4 (s.data.toList.drop k)))/\g=w:=by
 have d:=UH s k;have c:(s.data.toList.drop k).length=s.size-k:=List.length_drop;rcases zfq (s.data.toList.drop k)with⟨a,b⟩|⟨a,b⟩
 ·rw[c]at b;have f:=zbI (s.extract k s.size) 10 w (-1) (by rw[d];exact a);have h:((k+Z4 (s.data.toList.drop k):Nat):Int)=s.size:=by omega
  rw[h];clear d c a b h;go_enter func153,ntmps153;go_wp2_with(go_at_call 159;refine f.mono ?_;rintro e g⟨rfl,rfl⟩);go_ret;exact⟨rfl,rfl⟩
 ·rw[c]at b;generalize Z4 (s.data.toList.drop k)=n at *;have f:=zbI (s.extract k s.size) 10 w n (by rw[d];exact a);clear d c a;go_enter func153,ntmps153;go_wp2_with(go_at_call 159;refine f.mono ?_;rintro e g⟨rfl,rfl⟩);go_ret;exact⟨by simp,rfl⟩
theorem Q6(s:ByteArray)(k:Nat)(h:k<s.size):s.data.toList.drop k=s[k]::s.data.toList.drop (k+1):=by have a:k<s.data.toList.length:=h;rw[List.drop_eq_getElem_cons a];rfl
theorem J6(s:ByteArray)(k:Nat)(h:s.size<=k):s.data.toList.drop k=[]:=List.drop_of_length_le h
theorem ze5(l:List UInt8):blk true l=Z4 l+blk false (l.drop (Z4 l)):=by
 induction l with
 |nil=>simp[blk,Z4]
 |cons c t b=>
  by_cases a:c=10;·simp[blk,Z4,a,Y9]
  ·simp[blk,Z4,a,b];omega
theorem zfP(l:List UInt8):Z4 l<=l.length:=by
 induction l with
 |nil=>simp[Z4]|cons c t a=>simp only[Z4,List.length_cons];split<;>omega
theorem Kb(b:Bool)(l:List UInt8):blk b l<=l.length:=by
 induction l generalizing b with
 |nil=>cases b<;>simp[blk]
 |cons c t a=>
  cases b<;>simp only[blk,List.length_cons]
  ·have d:=a false;have e:=a true;split;·omega
   ·split<;>omega
  ·have d:=a false;have e:=a true;split<;>omega
theorem VZ{c:UInt8}{n:Int}(h:((c.toNat:Int)==n)=true):c=UInt8.ofNat n.toNat:=by have h:=beq_iff_eq.1 h;apply UInt8.toNat_inj.1;have:=c.toNat_lt;rw[<-h];simp
theorem VY{c:UInt8}{n:Int}(m:UInt8)(a:(m.toNat:Int)=n)(h:((c.toNat:Int)==n)=false):c≠m:=by intro e;subst e;rw[a]at h;simp at h
theorem Vq{s:ByteArray}{j r:Nat}(b:j<s.size)(a:Y9 s[j]=true)(H:Hid (j+blk false (s.data.toList.drop j)=r)):Hid ((j+1)+blk false (s.data.toList.drop (j+1))=r):=by have H:=H.out;rw[Q6 s j b]at H;simp only[blk,a,if_true]at H;show _=_;omega
theorem zb4{s:ByteArray}{j r:Nat}(e:j<s.size)(b:s[j]=35)(H:Hid (j+blk false (s.data.toList.drop j)=r)):j+Z4 (s.data.toList.drop j)<=s.size/\0<Z4 (s.data.toList.drop j)/\Hid ((j+Z4 (s.data.toList.drop j))+blk false (s.data.toList.drop (j+Z4 (s.data.toList.drop j)))=r):=by
 have H:=H.out;have a:=zfP (s.data.toList.drop j);rw[List.length_drop]at a;have f:s.data.toList.length=s.size:=rfl;rw[Q6 s j e]at H a|-;have c:Z4 (s[j]::s.data.toList.drop (j+1))=Z4 (s.data.toList.drop (j+1))+1:=by rw[b];simp[Z4]
 have d:blk false (s[j]::s.data.toList.drop (j+1))=blk true (s.data.toList.drop (j+1))+1:=by rw[b];simp[blk,Y9]
 rw[c]at a|-;rw[d,ze5,List.drop_drop]at H;refine⟨by omega,by omega,?_⟩;show _=_;rw[show j+(Z4 (s.data.toList.drop (j+1))+1)=(j+1)+Z4 (s.data.toList.drop (j+1))from by omega];omega
theorem zb5{s:ByteArray}{j r:Nat}(c:j<s.size)(a:Y9 s[j]=false)(b:s[j]≠35)(H:Hid (j+blk false (s.data.toList.drop j)=r)):j=r:=by have H:=H.out;rw[Q6 s j c]at H;simp[blk,a,b]at H;exact H
theorem ze4{c:UInt8}(a:((c.toNat:Int)==32)=false)(b:((c.toNat:Int)==9)=false)(d:((c.toNat:Int)==10)=false)(e:((c.toNat:Int)==13)=false):Y9 c=false:=by simp[Y9,VY 32 rfl a,VY 9 rfl b,VY 10 rfl d,VY 13 rfl e]
theorem ziP(s:ByteArray)(k r:Nat)(w:World)(f:k<=s.size)(m:s.size<=2000)(g:Hid (k+blk false (s.data.toList.drop k)=r)):Calls P 121 #[.string s,I J k] w λe c=>e=.returned (I J r)/\c=w:=by
 go_enter func121,ntmps121;go_wp2;go_loop[1] (λi=>∃j:Nat,j<=s.size/\i=I J j/\Hid (j+blk false (s.data.toList.drop j)=r)) (λi=>s.size-(intOf i).toNat);case atStart=>exact⟨k,f,rfl,g⟩
 case round=>
  obtain⟨j,l,rfl,a⟩:=hrel;by_cases b:j<s.size
  ·go_wp2_with(go_at_call 153;refine(zfM _ _ _ (by omega) (by omega)).mono ?_;rintro e c⟨rfl,rfl⟩)
   ·have h:=Vq b (by rw[VZ ‹((s[j].toNat:Int)==32)=true›];rfl) a;go_round;case rel=>exact⟨j+1,by omega,by go_num,h⟩
    case measure=>simp[intOf];omega
   ·have h:=Vq b (by rw[VZ ‹((s[j].toNat:Int)==9)=true›];rfl) a;go_round;case rel=>exact⟨j+1,by omega,by go_num,h⟩
    case measure=>simp[intOf];omega
   ·have h:=Vq b (by rw[VZ ‹((s[j].toNat:Int)==10)=true›];rfl) a;go_round;case rel=>exact⟨j+1,by omega,by go_num,h⟩
    case measure=>simp[intOf];omega
   ·have h:=Vq b (by rw[VZ ‹((s[j].toNat:Int)==13)=true›];rfl) a;go_round;case rel=>exact⟨j+1,by omega,by go_num,h⟩
    case measure=>simp[intOf];omega
   ·have h:=zb4 b (VZ ‹((s[j].toNat:Int)==35)=true›) a;go_round;case rel=>exact⟨j+Z4 (s.data.toList.drop j),h.1,by go_num,h.2.2⟩
    case measure=>simp[intOf];omega
   ·go_ret;have h:=zb5 b (ze4 (by assumption) (by assumption) (by assumption) (by assumption)) (VY 35 rfl (by assumption)) a;exact⟨by rw[<-h];rfl,rfl⟩
  ·have h:j=r:=by have:=a.out;rw[J6 s j (by omega)]at this;simpa[blk]using this
   have d:Hid (j=r):=h;clear h;go_wp2;go_ret;exact⟨by rw[<-d.out];rfl,rfl⟩
def chv:Option (UInt8×Nat)->Value
 |none=>.tuple #[I .u8 0,I J 0]
 |some (c,n)=>.tuple #[I .u8 c.toNat,I J n]
theorem zd8(c:UInt8):(c.toNat:Int).toNat.toUInt8=c:=by simp
theorem zbH(l:List UInt8)(c:UInt8):(l.contains c=true/\0<=Lib.indexByte l c)\/(l.contains c=false/\Lib.indexByte l c= -1):=by
 induction l with
 |nil=>right;simp[Lib.indexByte]
 |cons b l g=>
  by_cases d:b=c;·left;simp[Lib.indexByte,d]
  ·have f:¬c=b:=λh=>d h.symm;rcases g with⟨a,e⟩|⟨a,e⟩
   ·left;have:¬Lib.indexByte l c= -1:=by omega
    simp only[List.contains_eq_mem,List.mem_cons,decide_eq_true_eq]at a|-;refine⟨Or.inr a,?_⟩;simp[Lib.indexByte,d,this];omega
   ·right;simp only[List.contains_eq_mem,List.mem_cons,decide_eq_false_iff_not]at a|-;simp[Lib.indexByte,d,f,a,e]
theorem za5(m:ByteArray)(c:UInt8)(w:World)(h:m.data.toList.contains c=true):Calls P 159 #[.string m,I .u8 c.toNat] w λe b=>∃j:Int,0<=j/\e=.returned (I J j)/\b=w:=by
 refine(za3 m c.toNat w).mono ?_;rintro e b⟨rfl,rfl⟩;rw[zd8];rcases zbH m.data.toList c with⟨_,d⟩|⟨a,_⟩;·exact⟨_,d,rfl,rfl⟩
 ·rw[h]at a;cases a
theorem za4(m:ByteArray)(c:UInt8)(w:World)(h:m.data.toList.contains c=false):Calls P 159 #[.string m,I .u8 c.toNat] w λe b=>e=.returned (I J (-1))/\b=w:=by
 refine(za3 m c.toNat w).mono ?_;rintro e b⟨rfl,rfl⟩;rw[zd8];rcases zbH m.data.toList c with⟨a,_⟩|⟨_,d⟩;·rw[h]at a;cases a
 ·exact⟨by rw[d],rfl⟩
theorem Q3{c m:UInt8}(h:c≠m)(n:Int)(a:(m.toNat:Int)=n):((c.toNat:Int)==n)=false:=by rw[beq_eq_false_iff_ne];intro e;apply h;apply UInt8.toNat_inj.1;omega
theorem QW{c m:UInt8}(h:c=m)(n:Int)(a:(m.toNat:Int)=n):((c.toNat:Int)==n)=true:=by subst h;rw[a];simp
theorem zeO(s mk:ByteArray)(k:Nat)(w:World)(o:k<=s.size)(p:s.size<=2000):Calls P 193 #[.string s,I J k,.string mk] w λe g=>e=.returned (chv (YP mk.data.toList (s.data.toList.drop k)))/\g=w:=by
 by_cases h:k<s.size
 ·rw[Q6 s k h];simp only[YP];by_cases c:s[k]=110;·have i:=QW c 110 rfl;rw[if_pos c];clear c;go_enter func193,ntmps193;go_wp2;go_ret2;exact⟨rfl,rfl⟩
  rw[if_neg c];have i:=Q3 c 110 rfl;clear c;by_cases d:s[k]=116;·have l:=QW d 116 rfl;rw[if_pos d];clear d;go_enter func193,ntmps193;go_wp2;go_ret2;exact⟨rfl,rfl⟩
  rw[if_neg d];have l:=Q3 d 116 rfl;clear d;by_cases b:s[k]=92;·have m:=QW b 92 rfl;rw[if_pos (by simp[b])];clear b;go_enter func193,ntmps193;go_wp2;go_ret2;exact⟨rfl,rfl⟩
  have m:=Q3 b 92 rfl;by_cases a:mk.data.toList.contains s[k]=true;·rw[if_pos (by simp only[a,Bool.or_true])];clear b;have f:=za5 mk s[k] w a;clear a;go_enter func193,ntmps193;go_wp2_with(go_at_call 159;refine f.mono ?_;rintro e g⟨j,n,rfl,rfl⟩);go_ret2;exact⟨rfl,rfl⟩
  ·rw[if_neg (by simp only[b,a];simp)];clear b;have a:mk.data.toList.contains s[k]=false:=by simpa using a
   have f:=za4 mk s[k] w a;clear a;go_enter func193,ntmps193;go_wp2_with(go_at_call 159;refine f.mono ?_;rintro e g⟨rfl,rfl⟩);go_ret2;exact⟨rfl,rfl⟩
 ·rw[J6 s k (by omega)];go_enter func193,ntmps193;go_wp2;go_ret2;exact⟨rfl,rfl⟩
theorem zen(o:Option (UInt8×Nat)):∃(c:UInt8) (n:Nat),chv o=.tuple #[I .u8 c.toNat,I J n]:=by
 cases o with
 |none=>exact⟨0,0,rfl⟩|some p=>exact⟨p.1,p.2,rfl⟩
theorem zeg(s mk:ByteArray)(k:Nat)(w:World)(r:k<=s.size)(m:s.size<=2000):Calls P 180 #[.string s,I J k,.string mk] w λe f=>e=.returned (chv (Zh mk.data.toList (s.data.toList.drop k)))/\f=w:=by
 by_cases l:k<s.size
 ·rw[Q6 s k l];simp only[Zh];by_cases d:s[k]=92;·have o:=QW d 92 rfl;rw[if_pos d];clear d;have i:=zeO s mk (k+1) w (by omega) m;obtain⟨c,n,h⟩:=zen (YP mk.data.toList (s.data.toList.drop (k+1)));rw[h]at i|-;clear h;go_enter func180,ntmps180;go_wp2_with(go_at_call 193;refine i.mono ?_;rintro e f⟨rfl,rfl⟩);go_ret2;exact⟨rfl,rfl⟩
  rw[if_neg d];have o:=Q3 d 92 rfl;clear d;by_cases b:s[k]=10;·have p:=QW b 10 rfl;rw[if_pos (by simp[b])];clear b;go_enter func180,ntmps180;go_wp2;go_ret2;exact⟨rfl,rfl⟩
  have p:=Q3 b 10 rfl;by_cases a:mk.data.toList.contains s[k]=true;·rw[if_pos (by simp only[a,Bool.or_true])];clear b;have g:=za5 mk s[k] w a;clear a;go_enter func180,ntmps180;go_wp2_with(go_at_call 159;refine g.mono ?_;rintro e f⟨j,q,rfl,rfl⟩);go_ret2;exact⟨rfl,rfl⟩
  ·rw[if_neg (by simp only[b,a];simp)];clear b;have a:mk.data.toList.contains s[k]=false:=by simpa using a
   have g:=za4 mk s[k] w a;clear a;go_enter func180,ntmps180;go_wp2_with(go_at_call 159;refine g.mono ?_;rintro e f⟨rfl,rfl⟩);go_ret2;exact⟨rfl,rfl⟩
 ·rw[J6 s k (by omega)];go_enter func180,ntmps180;go_wp2;go_ret2;exact⟨rfl,rfl⟩
def zt:TK->Int
 | .fin=>0
 | .bad=>1
 | .name=>2
 | .arrow=>3
 | .lit=>4
 | .cls=>5
 | .sign c=>c.toNat
def zP(t:Tok)(v:Value):Value:=.agg #[I .u8 (zt t.kind),I J t.place,.string ⟨t.text.toArray⟩,v]
theorem Y3{W w1:World}(a:Below W.heap.size W w1):(∀b o,b<W.heap.size->w1.cell? ⟨b,o,N⟩=W.cell? ⟨b,o,N⟩)/\(∀b o,b<W.heap.size->w1.frozen? ⟨b,o,N⟩=W.frozen? ⟨b,o,N⟩):=⟨λb o h=>a.cell (p:=⟨b,o,N⟩) h,λb o h=>a.frozen (p:=⟨b,o,N⟩) h⟩
theorem Vp(w:World):Calls P 160 #[] w λe a=>e=.returned (.tuple #[zP zB (.slice N 0 0),I J 0])/\Below w.heap.size w a:=by go_enter func160,ntmps160;go_wp2;refine bodyPost_ret (v:=.tuple #[zP zB (.slice N 0 0),I J 0]) (by simp[results,results160,go_sem,zP,zt,zB]) rfl ⟨rfl,?_⟩;exact(Below.refl _ _).alloc (Nat.le_refl _) _
theorem Yl(s:ByteArray)(k n:Nat)(h:k+n<s.size):(s.data.toList.drop k)[n]?=S s[k+n]:=by rw[List.getElem?_drop];have a:k+n<s.data.toList.length:=h;rw[List.getElem?_eq_getElem a];rfl
theorem Vz(s:ByteArray)(k n:Nat)(h:s.size<=k+n):(s.data.toList.drop k)[n]?=N:=by rw[List.getElem?_drop];exact List.getElem?_eq_none h
theorem zbj(s:ByteArray)(k n m:Nat)(a:UInt8)(w:World)(l:s.size<=2000)(i:m<=2000)(h:k+n<=s.size):Calls P 181 #[.string s,I J ↑(k+n),I .u8 a.toNat,I J m] w λe g=>e=.returned (.bool (ZX (s.data.toList.drop k) n a m))/\g=w:=by
 unfold ZX;by_cases d:k+n<s.size
 ·rw[Yl s k n d];generalize k+n=j at *;by_cases b:s[j]=a
  ·have f:((s[j].toNat:Int)==(a.toNat:Int))=true:=by rw[b];simp
   rw[show(S s[j]==S a)=true from by rw[b];simp];clear b;by_cases c:1<=m;·rw[decide_eq_true c];go_enter func181,ntmps181;go_wp2;go_ret;refine⟨?_,rfl⟩;simp;omega
   ·rw[decide_eq_false c];go_enter func181,ntmps181;go_wp2;go_ret;exact⟨rfl,rfl⟩
  ·have f:((s[j].toNat:Int)==(a.toNat:Int))=false:=by rw[beq_eq_false_iff_ne];intro e;apply b;apply UInt8.toNat_inj.1;omega
   rw[show(S s[j]==S a)=false from by simp[b]];clear b;go_enter func181,ntmps181;go_wp2;go_ret;exact⟨rfl,rfl⟩
 ·rw[Vz s k n (by omega)];generalize k+n=j at *;go_enter func181,ntmps181;go_wp2;go_ret;exact⟨rfl,rfl⟩
theorem za8(l:List UInt8):ZQ l<=l.length:=by
 induction l with
 |nil=>simp[ZQ]|cons c t a=>simp only[ZQ,List.length_cons];split<;>omega
theorem Vx(s:ByteArray)(k n:Nat):s.extract k (k+n)=⟨((s.data.toList.drop k).take n).toArray⟩:=by apply ByteArray.ext;rw[ByteArray.data_extract];apply Array.toList_inj.1;rw[Array.toList_extract,List.extract_eq_take_drop];simp
theorem zgC(s:ByteArray)(k:Nat)(w:World)(M:s.size<=2000)(K:k<=s.size):Calls P 155 #[.string s,I J k] w λe o=>e=.returned (.tuple #[zP (Ql (s.data.toList.drop k)) (.slice N 0 0),I J (Ql (s.data.toList.drop k)).size])/\Below w.heap.size w o:=by
 have E:=za8 (s.data.toList.drop k);have g:=Vx s k (ZQ (s.data.toList.drop k));rw[List.length_drop,show s.data.toList.length=s.size from rfl]at E;obtain⟨a,l⟩:∃a,a=ZQ (s.data.toList.drop k):=⟨_,rfl⟩;obtain⟨T,n⟩:∃T,T=Ql (s.data.toList.drop k):=⟨_,rfl⟩;rw[<-n];have B:12<a->T=zB:=by intro h;rw[n];unfold Ql;rw[<-l,if_pos h]
 have D:a<=12->T=⟨.name,0,a,(s.data.toList.drop k).take a,[]⟩:=by intro h;rw[n];unfold Ql;rw[<-l,if_neg (by omega)]
 rw[<-l]at E g;have z:Hid (12<a->T=zB):=B;have A:Hid (a<=12->T=⟨.name,0,a,(s.data.toList.drop k).take a,[]⟩):=D;have y:Hid (a=ZQ (s.data.toList.drop k)):=l;have p:Hid (s.extract k (k+a)=⟨((s.data.toList.drop k).take a).toArray⟩):=g;clear l g n B D;go_enter func155,ntmps155;go_wp2;go_loop[6] (λi=>∃j:Nat,j<=a/\i=I J j/\Hid (a=j+ZQ (s.data.toList.drop (k+j)))) (λi=>a-(intOf i).toNat);case atStart=>exact⟨0,Nat.zero_le _,rfl,by rw[Nat.zero_add,Nat.add_zero];exact y⟩
 case round=>
  obtain⟨j,H,rfl,r⟩:=hrel;by_cases f:∃b:k+j<s.size,Qu s[k+j]=true
  ·obtain⟨b,f⟩:=f;have m:j+1<=a/\Hid (a=(j+1)+ZQ (s.data.toList.drop (k+(j+1)))):=by have h:=r.out;rw[Q6 s (k+j) b]at h;simp only[ZQ,f,if_true]at h;exact⟨by omega,show _=_ by rw[show k+(j+1)=k+j+1 from rfl];omega⟩
   go_wp2_with(go_at_call 154;refine(YD _ _).mono ?_;rintro e o⟨rfl,rfl⟩;rw[f]);go_round;case rel=>exact⟨j+1,m.1,by go_num,m.2⟩
   case measure=>simp[intOf];omega
  ·have m:j=a:=by
    have h:=r.out;by_cases b:k+j<s.size
    ·have c:Qu s[k+j]=false:=by
      cases g:Qu s[k+j]with
      |false=>rfl|true=>exact absurd ⟨b,g⟩ f
     rw[Q6 s (k+j) b]at h;simp[ZQ,c]at h;exact h.symm
    ·rw[J6 s (k+j) (by omega)]at h;simpa[ZQ]using h.symm
   have c:∀b:k+j<s.size,Qu s[k+j]=false:=by
    intro b;cases g:Qu s[k+j]with
    |false=>rfl|true=>exact absurd ⟨b,g⟩ f
   clear f r;subst m;by_cases F:12<j
   ·have q:=z.out F;subst q;clear z A p y;by_cases b:k+j<s.size;·have c:=c b;go_wp2_with(first|(go_at_call 154;refine(YD _ _).mono ?_;rintro e o⟨rfl,rfl⟩;rw[c])|(go_at_call 160;refine(Vp _).mono ?_;rintro e x⟨rfl,d⟩;obtain⟨t,G⟩:=Y3 d;have u:w.heap.size<x.heap.size:=(by have:=d.size;simp at this;omega);simp only[zP,zB,zt]));refine bodyPost_ret (v:=.tuple #[zP zB (.slice N 0 0),I J 0]) (by simp[results,results155,go_sem,zP,zt,zB,t,u]) rfl ⟨rfl,?_⟩;exact((((((Below.refl _ _).alloc (Nat.le_refl _) _).trans (d.mono (by simp))).setCell (Nat.le_refl _) _).setCell (Nat.le_refl _) _).setCell (Nat.le_refl _) _).setCell (Nat.le_refl _) _
    ·clear c;go_wp2_with(first|(go_at_call 160;refine(Vp _).mono ?_;rintro e x⟨rfl,d⟩;obtain⟨t,G⟩:=Y3 d;have u:w.heap.size<x.heap.size:=(by have:=d.size;simp at this;omega);simp only[zP,zB,zt]));refine bodyPost_ret (v:=.tuple #[zP zB (.slice N 0 0),I J 0]) (by simp[results,results155,go_sem,zP,zt,zB,t,u]) rfl ⟨rfl,?_⟩;exact((((((Below.refl _ _).alloc (Nat.le_refl _) _).trans (d.mono (by simp))).setCell (Nat.le_refl _) _).setCell (Nat.le_refl _) _).setCell (Nat.le_refl _) _).setCell (Nat.le_refl _) _
   ·have q:=A.out (by omega);subst q;have L:k+j<=s.size:=by omega
    by_cases b:k+j<s.size;·have c:=c b;go_wp2_with(first|(go_at_call 154;refine(YD _ _).mono ?_;rintro e o⟨rfl,rfl⟩;rw[c]));refine bodyPost_ret (v:=.tuple #[.agg #[I .u8 2,I J 0,.string (s.extract k (k+j)),.slice N 0 0],I J j]) (by simp[results,results155,go_sem]) rfl ⟨by rw[p.out];rfl,?_⟩;exact(Below.refl _ _).alloc (Nat.le_refl _) _
    ·clear c;go_wp2_with fail;refine bodyPost_ret (v:=.tuple #[.agg #[I .u8 2,I J 0,.string (s.extract k (k+j)),.slice N 0 0],I J j]) (by simp[results,results155,go_sem]) rfl ⟨by rw[p.out];rfl,?_⟩;exact(Below.refl _ _).alloc (Nat.le_refl _) _
theorem infoU8:(prog.info? 5).map (λi=>(i.zero,i.size,i.bytes))=S (S (I .u8 0),1,1):=by kernel_rfl
theorem zeN{m l:List UInt8}{c:UInt8}{n:Nat}(h:YP m l=S (c,n)):n=2/\1<=l.length:=by
 cases l with
 |nil=>simp[YP]at h
 |cons d t=>
  refine⟨?_,by simp⟩;simp only[YP]at h;split at h;·simp at h;omega
  ·split at h;·simp at h;omega
   ·split at h;·simp at h;omega
    ·cases h
theorem Jg{m l:List UInt8}{c:UInt8}{n:Nat}(h:Zh m l=S (c,n)):1<=n/\n<=l.length:=by
 cases l with
 |nil=>simp[Zh]at h
 |cons d t=>
  simp only[Zh]at h;split at h;·have:=zeN h;simp;omega
  ·split at h;·cases h
   ·simp at h;simp;omega
theorem zbc(m:List UInt8):∀(f g:Nat) (l:List UInt8),l.length<=f->l.length<=g->Yk m f l=Yk m g l
 |0,0,_,_,_=>rfl
 |0,g+1,l,b,_=>by have:l=[]:=List.length_eq_zero_iff.1 (by omega);subst this;simp[Yk,Zh]
 |f+1,0,l,_,d=>by have:l=[]:=List.length_eq_zero_iff.1 (by omega);subst this;simp[Yk,Zh]
 |f+1,g+1,l,b,d=>by
  simp only[Yk];cases a:Zh m l with
  |none=>rfl|some p=>obtain⟨c,n⟩:=p;have:=Jg a;have hd:(l.drop n).length=l.length-n:=List.length_drop;simp only[];rw[zbc m f g (l.drop n) (by omega) (by omega)]
theorem Um{m l:List UInt8}(h:Zh m l=N):Qc m l=([],0):=by
 unfold Qc;cases a:l.length with
 |zero=>rfl|succ f=>simp[Yk,h]
theorem qK{m l:List UInt8}{c:UInt8}{n:Nat}(h:Zh m l=S (c,n)):Qc m l=(c::(Qc m (l.drop n)).1,n+(Qc m (l.drop n)).2):=by
 have b:=Jg h;unfold Qc;cases a:l.length with
 |zero=>omega|succ f=>have hd:(l.drop n).length=l.length-n:=List.length_drop;rw[hd,a];simp only[Yk,h];rw[zbc m f (f+1-n) (l.drop n) (by omega) (by omega)]
theorem zeh(m l:List UInt8):(Qc m l).2<=l.length/\(Qc m l).1.length<=(Qc m l).2:=by
 generalize d:l.length=N;induction N using Nat.strongRecOn generalizing l with
 |ind N b=>
  cases a:Zh m l with
  |none=>rw[Um a];simp|some p=>obtain⟨c,n⟩:=p;have:=Jg a;rw[qK a];have hd:(l.drop n).length=l.length-n:=List.length_drop;have:=b (N-n) (by omega) (l.drop n) (by omega);simp;omega
def Vs(c:UInt8):Value:=I .u8 c.toNat
def Kt(s:ByteArray)(b:Nat)(X:z7×Nat)(B:Nat)(c:World)(j:Nat)(a:List UInt8)(v:Value)(wr:World):Prop:=b+j<=s.size/\a.length<=j/\wr.ownsRow B 5 1 v a.length (a.map Vs)/\Below B c wr/\B<=wr.heap.size/\X=(a++(Qc [39] (s.data.toList.drop (b+j))).1,j+(Qc [39] (s.data.toList.drop (b+j))).2)
theorem Kt.next{s:ByteArray}{a:Nat}{X:z7×Nat}{B:Nat}{k:World}{j:Nat}{b:List UInt8}{v:Value}{wr:World}(h:Kt s a X B k j b v wr){c:UInt8}{n:Nat}(e:Zh [39] (s.data.toList.drop (a+j))=S (c,n)){i:Value}{d:World}{O:Obj}(t:d.ownsRow B 5 1 i (b.length+1) (b.map Vs++[Vs c]))(f:(wr.alloc O).grownBy d v.ownBlock):Kt s a X B k (j+n) (b++[c]) i d:=by
 obtain⟨w,x,l,m,o,p⟩:=h;have r:=Jg e;rw[List.length_drop,show s.data.toList.length=s.size from rfl]at r;have u:=f.size;rw[show(wr.alloc O).heap.size=wr.heap.size+1 from by simp]at u;refine⟨by omega,by simp;omega,by simpa using t,?_,by omega,?_⟩;·exact(m.alloc o O).grown f (by simp;omega) (λg q=>(l.lt g q).1)
 ·rw[p,qK e,List.drop_drop,show a+j+n=a+(j+n)from by omega];simp;omega
theorem Kt.done{s:ByteArray}{a:Nat}{X:z7×Nat}{B:Nat}{e:World}{j:Nat}{b:List UInt8}{v:Value}{wr:World}(h:Kt s a X B e j b v wr)(d:Zh [39] (s.data.toList.drop (a+j))=N):X=(b,j):=by obtain⟨_,_,_,_,_,c⟩:=h;rw[c,Um d];simp
theorem KF{c:UInt8}{n:Nat}:chv (S (c,n))=.tuple #[I .u8 c.toNat,I J n]:=rfl
theorem KE:chv N=.tuple #[I .u8 0,I J 0]:=rfl
theorem KD(s mk:ByteArray)(k:Nat)(w:World)(a:k<=s.size)(b:s.size<=2000){o:Option (UInt8×Nat)}(h:Zh mk.data.toList (s.data.toList.drop k)=o):Calls P 180 #[.string s,I J k,.string mk] w λe c=>e=.returned (chv o)/\c=w:=h▸zeg s mk k w a b
theorem zew(w:World):(convert 117 9 (.slice N 0 0)).run P w=.ok (.string ⟨#[]⟩) w:=by kernel_rfl
theorem zl{w:World}{B:Nat}{e:TypeId}{b:Nat}{v:Value}{n:Nat}{d:List Value}(h:w.ownsRow B e b v n d):∃a c,v=.slice a n c:=by
 rcases h.2 with⟨rfl,rfl⟩|⟨g,f,i,rfl,_⟩;·exact⟨_,_,rfl⟩
 ·exact⟨_,_,rfl⟩
theorem zfV(s:ByteArray)(k:Nat)(w:World)(E:s.size<=2000)(hk:k<s.size):Calls P 157 #[.string s,I J k] w λe l=>e=.returned (.tuple #[zP (Qv (s.data.toList.drop (k+1))) (.slice N 0 0),I J (Qv (s.data.toList.drop (k+1))).size])/\Below w.heap.size w l:=by
 obtain⟨X,A⟩:∃X,X=Qc [39] (s.data.toList.drop (k+1)):=⟨_,rfl⟩;obtain⟨T,z⟩:∃T,T=Qv (s.data.toList.drop (k+1)):=⟨_,rfl⟩;obtain⟨C,y⟩:∃C,C=ZX (s.data.toList.drop (k+1)) X.2 39 X.1.length:=⟨_,rfl⟩;rw[<-z];have HT:Hid (T=if C then⟨.lit,0,X.2+2,X.1,[]⟩else zB):=by rw[y,A];exact z
 have r:Hid (X=Qc [39] (s.data.toList.drop (k+1))):=A;have Y:Hid (C=ZX (s.data.toList.drop (k+1)) X.2 39 X.1.length):=y;clear A z y;obtain⟨i0,hi,a4,a5,a6⟩:=info_parts infoU8;go_enter func157,ntmps157;go_wp2_with fail;go_loopw[6,7] (λv i wr=>∃(j:Nat) (b:List UInt8),i=I J ↑(k+1+j)/\Kt s (k+1) X (w.heap.size+1) (w.alloc (.cells #[I .u8 0,I J 0,.string ⟨#[]⟩,.slice N 0 0] 237)) j b v wr) (λ_ i _=>s.size-(intOf i).toNat);case atStart=>refine⟨0,[],by go_num,by omega,by simp,World.ownsRow_nil _ _ _ _,Below.refl _ _,by simp,?_⟩;rw[r.out];simp
 case round=>
  obtain⟨j,b,rfl,a⟩:=hrel;have a1:=a.1;cases m:Zh [39] (s.data.toList.drop (k+1+j))with
  |some p=>
   obtain⟨c,n⟩:=p;have q:Hid (Zh [39] (s.data.toList.drop (k+1+j))=S (c,n)):=m;have f:=KD s ⟨#[39]⟩ (k+1+j) wr (by omega) E m;rw[KF]at f;clear m;have ad:=(Jg q.out).1;have a3:=(Jg q.out).2;rw[List.length_drop,show s.data.toList.length=s.size from rfl]at a3;have O:((n:Int)==0)=false:=beq_eq_false_iff_ne.2 (by omega);have d:=a.2.2.1;have U:=a.2.1;have F:=a.2.2.2.2.1;go_wp2_with(first|(go_at_call 180;refine f.mono ?_;rintro e l⟨rfl,rfl⟩)|(at_builtin;refine wpList_append_own _ rfl _ _ 117 rfl (w.heap.size+1) 5 i0 (I .u8 0) 1 1 underlying117 hi a4 a5 a6 rfl (by decide) _ _ _ rfl (d.alloc _) ⟨l.heap.size,0,N⟩ 1 1 [Vs c] rfl rfl ?c1 ?c2 ?c3 ?c4 ?c5 ?_));case c1=>exact cell_one_new _ _ _
   case c2=>intro u R;simp at R;subst R;rfl
   case c3=>unfold maxLen;omega
   case c4=>omega
   case c5=>simp;omega
   intro v' V M K _;have hN:=a.next q.out M K;clear M K d F U a f;go_wp2;go_roundw;case rel=>exact⟨j+n,b++[c],by go_num,hN⟩
   case measure=>simp[intOf];omega
  |none=>
   have f:=KD s ⟨#[39]⟩ (k+1+j) wr (by omega) E m;rw[KE]at f;have hD:=a.done m;clear m;subst hD;have d:=a.2.2.1;have U:=a.2.1;have F:=a.2.2.2.2.1;have x:=a.2.2.2.1;have D:=zbj s (k+1) j b.length 39 wr E (by omega) a1;rw[<-Y.out]at D;obtain⟨Z,cp,h⟩:=zl d;subst h;obtain⟨H,aa⟩:=Y3 (W:=w.alloc (.cells #[I .u8 0,I J 0,.string ⟨#[]⟩,.slice N 0 0] 237)) (w1:=wr) (x.mono (by simp));have L:w.heap.size<wr.heap.size:=by omega
   cases G:C with
   |true=>
    subst G;simp only[if_true]at HT;have o:=HT.out;subst o;clear HT r;have a9:(convert 117 9 (.slice Z b.length cp)).run P wr=.ok (.string ⟨b.toArray⟩) wr:=by
     rcases d.2 with⟨h,hn⟩|⟨g,a7,a8,h,_⟩;·have:b=[]:=List.length_eq_zero_iff.1 hn;subst this;simp only[Value.slice.injEq]at h;obtain⟨rfl,_,rfl⟩:=h;exact zew _
     ·simp only[Value.slice.injEq]at h;obtain⟨rfl,_,rfl⟩:=h;refine run_convert_bytes_back wr _ _ 5 _ _ b underlying117 underlying5 underlying9 ?_;intro t O;exact d.cells rfl t _ (by simp[Vs,List.getElem?_eq_getElem O])
    clear a d;go_wp2_with(first|(go_at_call 180;refine f.mono ?_;rintro e l⟨rfl,rfl⟩)|(go_at_call 181;refine D.mono ?_;rintro e l⟨rfl,rfl⟩));refine bodyPost_ret (v:=.tuple #[.agg #[I .u8 4,I J 0,.string ⟨b.toArray⟩,.slice N 0 0],I J (↑k+1+↑j+1- ↑k)]) (by simp[results,results157,go_sem,H,L]) rfl ⟨by rw[show((k:Int)+1+j+1-k)=((j+2:Nat):Int)from by omega];rfl,?_⟩;exact((((((Below.refl _ _).alloc (Nat.le_refl _) _).trans (x.mono (by simp))).setCell (Nat.le_refl _) _).setCell (Nat.le_refl _) _).setCell (Nat.le_refl _) _).setCell (Nat.le_refl _) _
   |false=>subst G;have o:=HT.out;simp at o;subst o;clear HT r d a;go_wp2_with(first|(go_at_call 180;refine f.mono ?_;rintro e l⟨rfl,rfl⟩)|(go_at_call 181;refine D.mono ?_;rintro e l⟨rfl,rfl⟩)|(go_at_call 160;refine(Vp _).mono ?_;rintro e V⟨rfl,B⟩;obtain⟨a2,ab⟩:=Y3 B;have hz:=B.size;simp only[zP,zB,zt]));refine bodyPost_ret (v:=.tuple #[zP zB (.slice N 0 0),I J 0]) (by simp[results,results157,go_sem,zP,zt,zB,a2,H,L,show w.heap.size<V.heap.size from by omega]) rfl ⟨rfl,?_⟩;exact((((((((Below.refl _ _).alloc (Nat.le_refl _) _).trans (x.mono (by simp))).trans (B.mono (by omega)))).setCell (Nat.le_refl _) _).setCell (Nat.le_refl _) _).setCell (Nat.le_refl _) _).setCell (Nat.le_refl _) _
def spv:Option (zR×Nat)->Value
 |none=>.tuple #[.agg #[I .u8 0,I .u8 0],I J 0]
 |some (p,n)=>.tuple #[.agg #[I .u8 p.1.toNat,I .u8 p.2.toNat],I J n]
theorem zc(w:World)(o:Obj):Below w.heap.size w (w.alloc o):=(Below.refl _ _).alloc (Nat.le_refl _) _
theorem ziU(s:ByteArray)(k:Nat)(w:World)(l:s.size<=2000)(o:k<=s.size):Calls P 182 #[.string s,I J k] w λe b=>e=.returned (spv (ZT (s.data.toList.drop k)))/\Below w.heap.size w b:=by
 unfold ZT;cases a:Zh [93,45] (s.data.toList.drop k)with
 |none=>have c:=λw=>KD s ⟨#[93,45]⟩ k w o l a;rw[KE]at c;clear a;go_enter func182,ntmps182;go_wp2_with(go_at_call 180;refine(c _).mono ?_;rintro e b⟨rfl,rfl⟩);refine bodyPost_ret (v:=spv N) (by simp[results,results182,go_sem,spv]) rfl ⟨rfl,zc _ _⟩
 |some p=>
  obtain⟨f,n⟩:=p;have c:=λw=>KD s ⟨#[93,45]⟩ k w o l a;rw[KF]at c;have i:=Jg a;rw[List.length_drop,show s.data.toList.length=s.size from rfl]at i;obtain⟨z,A⟩:=i;have B:((n:Int)==0)=false:=beq_eq_false_iff_ne.2 (by omega);clear a;simp only[];by_cases q:k+n<s.size
  ·rw[Yl s k n q];have r:((k:Int)+n==s.size)=false:=beq_eq_false_iff_ne.2 (by omega);by_cases g:s[k+n]=45
   ·rw[if_pos (by rw[g])];have t:((s[k+n].toNat:Int)!=45)=false:=by rw[g];rfl
    clear g;rw[List.drop_drop];cases a:Zh [93,45] (s.data.toList.drop (k+(n+1)))with
    |none=>have d:=λw=>KD s ⟨#[93,45]⟩ (k+(n+1)) w (by omega) l a;rw[KE]at d;simp only[show((k+(n+1):Nat):Int)=(k:Int)+n+1 from by omega]at d;clear a;go_enter func182,ntmps182;go_wp2_with fail;refine(c _).mono ?_;rintro e b⟨rfl,rfl⟩;go_wp2_with fail;refine(d _).mono ?_;rintro e b⟨rfl,rfl⟩;go_wp2_with fail;refine bodyPost_ret (v:=spv N) (by simp[results,results182,go_sem,spv]) rfl ⟨rfl,zc _ _⟩
    |some p=>
     obtain⟨j,m⟩:=p;have d:=λw=>KD s ⟨#[93,45]⟩ (k+(n+1)) w (by omega) l a;rw[KF]at d;have i:=Jg a;rw[List.length_drop,show s.data.toList.length=s.size from rfl]at i;obtain⟨x,y⟩:=i;simp only[show((k+(n+1):Nat):Int)=(k:Int)+n+1 from by omega]at d;clear a;have D:((m:Int)==0)=false:=beq_eq_false_iff_ne.2 (by omega);simp only[];by_cases h:f<=j
     ·rw[if_pos h];have u:(f.toNat:Int)<=j.toNat:=by rw[UInt8.le_iff_toNat_le]at h;omega
      clear h;go_enter func182,ntmps182;go_wp2_with fail;refine(c _).mono ?_;rintro e b⟨rfl,rfl⟩;go_wp2_with fail;refine(d _).mono ?_;rintro e b⟨rfl,rfl⟩;go_wp2_with fail;refine bodyPost_ret (v:=spv (S ((f,j),n+1+m))) (by simp[results,results182,go_sem,spv]) rfl ⟨rfl,zc _ _⟩
     ·rw[if_neg h];have u:¬(f.toNat:Int)<=j.toNat:=by rw[UInt8.le_iff_toNat_le]at h;omega
      clear h;go_enter func182,ntmps182;go_wp2_with fail;refine(c _).mono ?_;rintro e b⟨rfl,rfl⟩;go_wp2_with fail;refine(d _).mono ?_;rintro e b⟨rfl,rfl⟩;go_wp2_with fail;refine bodyPost_ret (v:=spv N) (by simp[results,results182,go_sem,spv]) rfl ⟨rfl,zc _ _⟩
   ·rw[if_neg (by simpa using g)];have t:((s[k+n].toNat:Int)!=45)=true:=by rw[bne_iff_ne];intro e;apply g;apply UInt8.toNat_inj.1;rw[show(45:UInt8).toNat=45 from rfl];omega
    clear g;go_enter func182,ntmps182;go_wp2_with(go_at_call 180;refine(c _).mono ?_;rintro e b⟨rfl,rfl⟩);refine bodyPost_ret (v:=spv (S ((f,f),n))) (by simp[results,results182,go_sem,spv]) rfl ⟨rfl,zc _ _⟩
  ·rw[Vz s k n (by omega)];have r:((k:Int)+n==s.size)=true:=beq_iff_eq.2 (by omega);rw[if_neg (by simp)];go_enter func182,ntmps182;go_wp2_with(go_at_call 180;refine(c _).mono ?_;rintro e b⟨rfl,rfl⟩);refine bodyPost_ret (v:=spv (S ((f,f),n))) (by simp[results,results182,go_sem,spv]) rfl ⟨rfl,zc _ _⟩
theorem infoSpan:(prog.info? 313).map (λi=>(i.zero,i.size,i.bytes))=S (S (.agg #[I .u8 0,I .u8 0]),2,2):=by kernel_rfl
theorem KZ{l:List UInt8}{c:zR}{n:Nat}(h:ZT l=S (c,n)):1<=n/\n<=l.length:=by
 unfold ZT at h;cases a:Zh [93,45] l with
 |none=>rw[a]at h;cases h
 |some p=>
  obtain⟨g,m⟩:=p;have b:=Jg a;rw[a]at h;simp only[]at h;split at h
  ·cases hd:Zh [93,45] (l.drop (m+1))with
   |none=>rw[hd]at h;cases h
   |some q=>
    obtain⟨e,r⟩:=q;have d:=Jg hd;rw[hd]at h;simp only[]at h;have f:(l.drop (m+1)).length=l.length-(m+1):=List.length_drop;split at h;·simp at h;omega
    ·cases h
  ·simp at h;omega
theorem zcR:∀(f g:Nat) (l:List UInt8),l.length<=f->l.length<=g->Yo f l=Yo g l
 |0,0,_,_,_=>rfl
 |0,g+1,l,b,_=>by have:l=[]:=List.length_eq_zero_iff.1 (by omega);subst this;simp[Yo,ZT,Zh]
 |f+1,0,l,_,d=>by have:l=[]:=List.length_eq_zero_iff.1 (by omega);subst this;simp[Yo,ZT,Zh]
 |f+1,g+1,l,b,d=>by
  simp only[Yo];cases a:ZT l with
  |none=>rfl|some p=>obtain⟨c,n⟩:=p;have:=KZ a;have hd:(l.drop n).length=l.length-n:=List.length_drop;simp only[];rw[zcR f g (l.drop n) (by omega) (by omega)]
theorem VU{l:List UInt8}(h:ZT l=N):QL l=([],0):=by
 unfold QL;cases a:l.length with
 |zero=>rfl|succ f=>simp[Yo,h]
theorem zcS{l:List UInt8}{c:zR}{n:Nat}(h:ZT l=S (c,n)):QL l=(c::(QL (l.drop n)).1,n+(QL (l.drop n)).2):=by
 have b:=KZ h;unfold QL;cases a:l.length with
 |zero=>omega|succ f=>have hd:(l.drop n).length=l.length-n:=List.length_drop;rw[hd,a];simp only[Yo,h];rw[zcR f (f+1-n) (l.drop n) (by omega) (by omega)]
def ZO(p:zR):List Value:=[I .u8 p.1.toNat,I .u8 p.2.toNat]
def Qr(w:World)(B:Nat)(v:Value)(a:List zR):Prop:=w.ownsRow B 313 2 v a.length (a.flatMap ZO)
def Kn(s:ByteArray)(a:Nat)(X:List zR×Nat)(B:Nat)(c:World)(j:Nat)(b:List zR)(v:Value)(wr:World):Prop:=a+j<=s.size/\b.length<=j/\Qr wr B v b/\Below B c wr/\B<=wr.heap.size/\X=(b++(QL (s.data.toList.drop (a+j))).1,j+(QL (s.data.toList.drop (a+j))).2)
theorem Zv{w f:World}{c:Nat}{e:TypeId}{d:Nat}{v:Value}{n:Nat}{i:List Value}(h:w.ownsRow c e d v n i)(m:Below w.heap.size w f):f.ownsRow c e d v n i:=by
 obtain⟨l,a⟩:=h;refine⟨l,?_⟩;rcases a with a|⟨g,j,k,p,o,b,r⟩;·exact Or.inl a
 ·refine Or.inr ⟨g,j,k,p,o,?_,r⟩;rw[m.block g ?_];exact b;rcases Nat.lt_or_ge g w.heap.size with h|h;·exact h
  ·rw[Array.getElem?_eq_none h]at b;cases b
theorem Zn{w:World}{b c:Nat}{e:TypeId}{d:Nat}{v:Value}{n:Nat}{f:List Value}(h:w.ownsRow b e d v n f)(l:c<=b):w.ownsRow c e d v n f:=by
 obtain⟨k,a⟩:=h;refine⟨k,?_⟩;rcases a with a|⟨g,i,j,o,m,r⟩;·exact Or.inl a
 ·exact Or.inr ⟨g,i,j,o,Nat.le_trans l m,r⟩
theorem Kn.next{s:ByteArray}{a:Nat}{X:List zR×Nat}{B:Nat}{l:World}{j:Nat}{b:List zR}{v:Value}{wr:World}(h:Kn s a X B l j b v wr){c:zR}{n:Nat}(f:ZT (s.data.toList.drop (a+j))=S (c,n)){k:Value}{m d:World}(e:Below wr.heap.size wr m)(w:d.ownsRow B 313 2 k (b.length+1) (b.flatMap ZO++ZO c))(i:m.grownBy d v.ownBlock):Kn s a X B l (j+n) (b++[c]) k d:=by
 obtain⟨x,y,o,p,q,r⟩:=h;have u:=KZ f;rw[List.length_drop,show s.data.toList.length=s.size from rfl]at u;have z:=i.size;have A:=e.size;refine⟨by omega,by simp;omega,by simpa[Qr]using w,?_,by omega,?_⟩;·exact(p.trans (e.mono q)).grown i (by omega) (λg t=>(o.lt g t).1)
 ·rw[r,zcS f,List.drop_drop,show a+j+n=a+(j+n)from by omega];simp;omega
theorem Kn.done{s:ByteArray}{a:Nat}{X:List zR×Nat}{B:Nat}{e:World}{j:Nat}{b:List zR}{v:Value}{wr:World}(h:Kn s a X B e j b v wr)(d:ZT (s.data.toList.drop (a+j))=N):X=(b,j):=by obtain⟨_,_,_,_,_,c⟩:=h;rw[c,VU d];simp
theorem zcQ(s:ByteArray)(k:Nat)(w:World)(b:s.size<=2000)(a:k<=s.size){o:Option (zR×Nat)}(h:ZT (s.data.toList.drop k)=o):Calls P 182 #[.string s,I J k] w λe c=>e=.returned (spv o)/\Below w.heap.size w c:=h▸ziU s k w b a
theorem KC(w:World)(x y:Value)(t:TypeId):∀j u,[x,y][j]?=S u->(w.alloc (.cells #[x,y] t)).cell? ((⟨w.heap.size,0,N⟩:Addr).add j)=S u:=by
 intro j u a;match j,a with
 |0,a=>simp at a;subst a;simp[Addr.add]|1,a=>simp at a;subst a;simp[Addr.add]
theorem zep(s:ByteArray)(k:Nat)(w:World)(M:s.size<=2000)(hk:k<s.size):Calls P 158 #[.string s,I J k] w λe y=>∃x,e=.returned (.tuple #[zP (QB (s.data.toList.drop (k+1))) x,I J (QB (s.data.toList.drop (k+1))).size])/\Below w.heap.size w y/\Qr y w.heap.size x (QB (s.data.toList.drop (k+1))).spans:=by
 obtain⟨X,G⟩:∃X,X=QL (s.data.toList.drop (k+1)):=⟨_,rfl⟩;obtain⟨T,F⟩:∃T,T=QB (s.data.toList.drop (k+1)):=⟨_,rfl⟩;obtain⟨C,E⟩:∃C,C=ZX (s.data.toList.drop (k+1)) X.2 93 X.1.length:=⟨_,rfl⟩;rw[<-F];have HT:Hid (T=if C then⟨.cls,0,X.2+2,[],X.1⟩else zB):=by rw[E,G];exact F
 have A:Hid (X=QL (s.data.toList.drop (k+1))):=G;have HC:Hid (C=ZX (s.data.toList.drop (k+1)) X.2 93 X.1.length):=E;clear G F E;obtain⟨i0,hi,a6,a7,a8⟩:=info_parts infoSpan;go_enter func158,ntmps158;go_wp2_with fail;go_loopw[6,7] (λx i wr=>∃(j:Nat) (d:List zR),i=I J ↑(k+1+j)/\Kn s (k+1) X (w.heap.size+1) (w.alloc (.cells #[I .u8 0,I J 0,.string ⟨#[]⟩,.slice N 0 0] 237)) j d x wr) (λ_ i _=>s.size-(intOf i).toNat);case atStart=>refine⟨0,[],by go_num,by omega,by simp,World.ownsRow_nil _ _ _ _,Below.refl _ _,by simp,?_⟩;rw[A.out];simp
 case round=>
  obtain⟨j,d,rfl,a⟩:=hrel;have a3:=a.1;cases h:ZT (s.data.toList.drop (k+1+j))with
  |some p=>
   obtain⟨c,n⟩:=p;have z:Hid (ZT (s.data.toList.drop (k+1+j))=S (c,n)):=h;have f:=zcQ s (k+1+j) wr M (by omega) h;simp only[spv]at f;clear h;have ab:=(KZ z.out).1;have a5:=(KZ z.out).2;rw[List.length_drop,show s.data.toList.length=s.size from rfl]at a5;have ht:((n:Int)==0)=false:=beq_eq_false_iff_ne.2 (by omega);have g:wr.ownsRow (w.heap.size+1) 313 2 u6 d.length (d.flatMap ZO):=a.2.2.1;have a1:=a.2.1;have R:=a.2.2.2.2.1;go_wp2_with(first|(go_at_call 182;refine f.mono ?_;rintro e l⟨rfl,b⟩;have Z:=Zv g b;have O:=b.size)|(at_builtin;refine wpList_append_own _ rfl _ _ 235 rfl (w.heap.size+1) 313 i0 _ 2 2 underlying235 hi a6 a7 a8 rfl (by decide) _ _ _ rfl ((Z.alloc _).alloc _) ⟨l.heap.size+1,0,N⟩ 1 1 (ZO c) rfl rfl ?c1 ?c2 ?c3 ?c4 ?c5 ?_));case c1=>rw[<-World.size_alloc l (Obj.cells #[Value.int IntKind.u8 ↑c.fst.toNat,Value.int IntKind.u8 ↑c.snd.toNat] 313)];exact KC _ _ _ _
   case c2=>intro u hu;simp[ZO]at hu;rcases hu with rfl|rfl<;>rfl
   case c3=>unfold maxLen;omega
   case c4=>omega
   case c5=>simp;omega
   intro v' w2 Y W _;have hN:=a.next z.out ((b.alloc O _).alloc (by simp;omega) _) Y W;clear Y W g R a1 a f Z b;go_wp2;go_roundw;case rel=>exact⟨j+n,d++[c],by go_num,hN⟩
   case measure=>simp[intOf];omega
  |none=>
   have f:=zcQ s (k+1+j) wr M (by omega) h;simp only[spv]at f;have hD:=a.done h;clear h;subst hD;have g:wr.ownsRow (w.heap.size+1) 313 2 u6 d.length (d.flatMap ZO):=a.2.2.1;have a1:=a.2.1;have R:=a.2.2.2.2.1;have r:=a.2.2.2.1;have K:=λw=>zbj s (k+1) j d.length 93 w M (by omega) a3;simp only[<-HC.out]at K;obtain⟨B,D,hv⟩:=zl g;subst hv;have aa:w.heap.size<wr.heap.size:=by omega
   cases U:C with
   |true=>
    subst U;simp only[if_true]at HT;have m:=HT.out;subst m;clear HT A;have a2:Hid (wr.ownsRow (w.heap.size+1) 313 2 (.slice B d.length D) d.length (d.flatMap ZO)):=g;clear a g;go_wp2_with(first|(go_at_call 182;refine f.mono ?_;rintro e l⟨rfl,b⟩;obtain⟨t,a4⟩:=Y3 ((Below.mono (B':=(w.alloc (.cells #[I .u8 0,I J 0,.string ⟨#[]⟩,.slice N 0 0] 237)).heap.size) r (by simp)).trans (b.mono (by simp;omega)));have O:=b.size;have L:w.heap.size<l.heap.size:=(by omega))|(go_at_call 181;refine(K _).mono ?_;rintro e y⟨rfl,rfl⟩));refine bodyPost_ret (v:=.tuple #[.agg #[I .u8 5,I J 0,.string ⟨#[]⟩,.slice B d.length D],I J (↑k+1+↑j+1- ↑k)]) (by simp[results,results158,go_sem,t,L]) rfl ⟨.slice B d.length D,by rw[show((k:Int)+1+j+1-k)=((j+2:Nat):Int)from by omega];rfl,?_,?_⟩;·exact(((((((((Below.refl _ _).alloc (Nat.le_refl _) _).trans (r.mono (by simp))).trans (b.mono (by omega)))).setCell (Nat.le_refl _) _).setCell (Nat.le_refl _) _).setCell (Nat.le_refl _) _).setCell (Nat.le_refl _) _).alloc (by simp;omega) _
    ·exact Zn ((ownsRow_setCell_below (ownsRow_setCell_below (ownsRow_setCell_below (ownsRow_setCell_below (Zv a2.out b) (Nat.lt_succ_self _) _) (Nat.lt_succ_self _) _) (Nat.lt_succ_self _) _) (Nat.lt_succ_self _) _).alloc _) (Nat.le_succ _)
   |false=>
    subst U;have m:=HT.out;simp at m;subst m;clear HT A g a;go_wp2_with(first|(go_at_call 182;refine f.mono ?_;rintro e l⟨rfl,b⟩;obtain⟨t,a4⟩:=Y3 ((Below.mono (B':=(w.alloc (.cells #[I .u8 0,I J 0,.string ⟨#[]⟩,.slice N 0 0] 237)).heap.size) r (by simp)).trans (b.mono (by simp;omega)));have O:=b.size;have L:w.heap.size<l.heap.size:=(by omega))|(go_at_call 181;refine(K _).mono ?_;rintro e y⟨rfl,rfl⟩)|(go_at_call 160;refine(Vp _).mono ?_;rintro e w2⟨rfl,H⟩;obtain⟨V,a9⟩:=Y3 H;have hz:=H.size;simp only[zP,zB,zt]));have q:∀o,w2.cell? ⟨w.heap.size,o,N⟩=(#[I .u8 0,I J 0,.string ⟨#[]⟩,.slice N 0 0]:Array Value)[o]?:=λo=>by rw[V _ _ (by simp;omega),World.cell?_alloc_lt _ _ _ L,t _ _ (by simp)];simp
    clear V t;refine bodyPost_ret (v:=.tuple #[zP zB (.slice N 0 0),I J 0]) (by simp[results,results158,go_sem,zP,zt,zB,q]) rfl ⟨_,rfl,?_,World.ownsRow_nil _ _ _ _⟩;exact((((((((((Below.refl _ _).alloc (Nat.le_refl _) _).trans (r.mono (by simp))).trans (b.mono (by omega))).alloc (by omega) _).trans (H.mono (by simp;omega)))).setCell (Nat.le_refl _) _).setCell (Nat.le_refl _) _).setCell (Nat.le_refl _) _).setCell (Nat.le_refl _) _
theorem zhn(s:ByteArray)(w:World)(f:s.size<=2000):Calls P 156 #[.string s,.string ⟨#[60,45]⟩] w λe d=>e=.returned (.bool (s.data.toList.take 2==[60,45]))/\d=w:=by
 by_cases h:2<=s.size
 ·go_enter func156,ntmps156;go_wp2;go_ret;refine⟨?_,rfl⟩;have a:(s.extract 0 2).toList=s.data.toList.take 2:=by rw[show(2:Nat)=0+2 from rfl,Vx];simp
  show Ending.returned (Value.bool ((s.extract 0 2).toList==[60,45]))=_;rw[a]
 ·have a:(s.data.toList.take 2==[60,45])=false:=by rw[beq_eq_false_iff_ne];intro b;have:=congrArg List.length b;have c:s.data.toList.length=s.size:=rfl;simp[c]at this;omega
  rw[a];have hd:¬(2:Int)<=s.size:=by omega
  go_enter func156,ntmps156;go_wp2;go_ret;exact⟨rfl,rfl⟩
def Vg(w:World)(t:Tok)(e:Ending)(a:World):Prop:=∃v,e=.returned (.tuple #[zP t v,I J t.size])/\Below w.heap.size w a/\Qr a w.heap.size v t.spans
theorem zgH(l:List UInt8):(Ql l).spans=[]:=by unfold Ql;split<;>rfl
theorem zfU(l:List UInt8):(Qv l).spans=[]:=by unfold Qv;split<;>rfl
theorem zgD(s:ByteArray)(k:Nat)(w:World)(c:s.size<=2000)(b:k<=s.size):Calls P 155 #[.string s,I J k] w (Vg w (Ql (s.data.toList.drop k))):=by refine(zgC s k w c b).mono ?_;rintro e d⟨rfl,a⟩;exact⟨_,rfl,a,by rw[zgH];exact World.ownsRow_nil _ _ _ _⟩
theorem zfW(s:ByteArray)(k:Nat)(w:World)(c:s.size<=2000)(b:k<s.size):Calls P 157 #[.string s,I J k] w (Vg w (Qv (s.data.toList.drop (k+1)))):=by refine(zfV s k w c b).mono ?_;rintro e d⟨rfl,a⟩;exact⟨_,rfl,a,by rw[zfU];exact World.ownsRow_nil _ _ _ _⟩
theorem zeq(s:ByteArray)(k:Nat)(w:World)(b:s.size<=2000)(a:k<s.size):Calls P 158 #[.string s,I J k] w (Vg w (QB (s.data.toList.drop (k+1)))):=zep s k w b a
theorem zdR(w:World):Calls P 160 #[] w (Vg w zB):=by refine(Vp w).mono ?_;rintro e b⟨rfl,a⟩;exact⟨_,rfl,a,World.ownsRow_nil _ _ _ _⟩
abbrev V4:Obj:=.cells #[I .u8 0,I J 0,.string ⟨#[]⟩,.slice N 0 0] 237
theorem qd{w e:World}{v:Value}{g:List zR}(a b c d:Value)(h:Below (w.alloc V4).heap.size (w.alloc V4) e)(f:Qr e (w.alloc V4).heap.size v g):Below w.heap.size w ((((e.setCell ⟨w.heap.size,0,N⟩ a).setCell ⟨w.heap.size,1,N⟩ b).setCell ⟨w.heap.size,2,N⟩ c).setCell ⟨w.heap.size,3,N⟩ d)/\Qr ((((e.setCell ⟨w.heap.size,0,N⟩ a).setCell ⟨w.heap.size,1,N⟩ b).setCell ⟨w.heap.size,2,N⟩ c).setCell ⟨w.heap.size,3,N⟩ d) w.heap.size v g:=by refine⟨((((((Below.refl _ _).alloc (Nat.le_refl _) _).trans (h.mono (by simp))).setCell (Nat.le_refl _) _).setCell (Nat.le_refl _) _).setCell (Nat.le_refl _) _).setCell (Nat.le_refl _) _,?_⟩;rw[show(w.alloc V4).heap.size=w.heap.size+1 from by simp]at f;exact Zn (ownsRow_setCell_below (ownsRow_setCell_below (ownsRow_setCell_below (ownsRow_setCell_below f (Nat.lt_succ_self _) _) (Nat.lt_succ_self _) _) (Nat.lt_succ_self _) _) (Nat.lt_succ_self _) _) (Nat.le_succ _)
theorem qc{w a:World}(b:Below (w.alloc V4).heap.size (w.alloc V4) a):(∀o,a.cell? ⟨w.heap.size,o,N⟩=(#[I .u8 0,I J 0,.string ⟨#[]⟩,.slice N 0 0]:Array Value)[o]?)/\(∀o,a.frozen? ⟨w.heap.size,o,N⟩=false)/\w.heap.size<a.heap.size:=by
 obtain⟨c,d⟩:=Y3 b;refine⟨λo=> ?_,λo=> ?_,?_⟩;·rw[c _ _ (by simp)];simp
 ·rw[d _ _ (by simp)];simp
 ·have:=b.size;simp at this;omega
theorem zj2(s:ByteArray)(k:Nat)(h:k<s.size):((s.extract k s.size).data.toList.take 2==[60,45])=decide (s[k]=60/\(s.data.toList.drop (k+1)).head?=S 45):=by
 rw[UH,Q6 s k h];rw[Bool.eq_iff_iff];cases s.data.toList.drop (k+1)with
 |nil=>simp|cons d t=>simp
theorem ziO(s:ByteArray)(k:Nat):(s.extract k s.size).size<=s.size:=by
 have:(s.extract k s.size).data.toList.length=s.data.toList.length-k:=by rw[UH,List.length_drop]
 have a:(s.extract k s.size).data.toList.length=(s.extract k s.size).size:=rfl;have b:s.data.toList.length=s.size:=rfl;omega
theorem zjd(s:ByteArray)(k:Nat)(w:World)(y:s.size<=2000)(E:k<=s.size):Calls P 122 #[.string s,I J k] w λe a=>Vg w (zM (s.data.toList.drop k)) e a:=by
 by_cases t:k<s.size
 ·have F:((k:Int)==s.size)=false:=beq_eq_false_iff_ne.2 (by omega);have x:=λw=>zgD s k w y E;have r:=λw=>zfW s k w y t;have q:=λw=>zeq s k w y t;have d:=λw=>zhn (s.extract k s.size) w (by have:=ziO s k;omega);rw[zj2 s k t]at d;rw[Q6 s k t]at x|-;simp only[zM];by_cases o:Qu s[k]=true;·rw[if_pos o];generalize Ql (s[k]::s.data.toList.drop (k+1))=T at *;clear r q d;go_enter func122,ntmps122;go_wp2_with(first|(go_at_call 154;refine(YD _ _).mono ?_;rintro e a⟨rfl,rfl⟩;rw[o])|(go_at_call 155;refine(x _).mono ?_;rintro e D⟨B,rfl,b,c⟩;obtain⟨f,g,rfl⟩:=zl c;obtain⟨h,z,A⟩:=qc b;simp only[zP]));refine bodyPost_ret (v:=.tuple #[zP T (.slice f T.spans.length g),I J T.size]) (by simp[results,results122,go_sem,zP,h]) rfl ⟨_,rfl,?_⟩;exact qd _ _ _ _ b c
  rw[if_neg o];have p:Qu s[k]=false:=by simpa using o
  clear o x;by_cases i:s[k]=60/\(s.data.toList.drop (k+1)).head?=S 45;·rw[decide_eq_true i]at d;rw[if_pos i];clear i r q;go_enter func122,ntmps122;go_wp2_with(first|(go_at_call 154;refine(YD _ _).mono ?_;rintro e a⟨rfl,rfl⟩;rw[p])|(go_at_call 156;refine(d _).mono ?_;rintro e a⟨rfl,rfl⟩));refine bodyPost_ret (v:=.tuple #[zP ⟨.arrow,0,2,[],[]⟩ (.slice N 0 0),I J 2]) (by simp[results,results122,go_sem,zP,zt]) rfl ⟨_,rfl,zc _ _,World.ownsRow_nil _ _ _ _⟩
  rw[decide_eq_false i]at d;rw[if_neg i];clear i;by_cases l:s[k]=39;·rw[if_pos l];have G:=QW l 39 rfl;clear l q;generalize Qv (s.data.toList.drop (k+1))=T at *;go_enter func122,ntmps122;go_wp2_with(first|(go_at_call 154;refine(YD _ _).mono ?_;rintro e a⟨rfl,rfl⟩;rw[p])|(go_at_call 156;refine(d _).mono ?_;rintro e a⟨rfl,rfl⟩)|(go_at_call 157;refine(r _).mono ?_;rintro e D⟨B,rfl,b,c⟩;obtain⟨f,g,rfl⟩:=zl c;obtain⟨h,z,A⟩:=qc b;simp only[zP]));refine bodyPost_ret (v:=.tuple #[zP T (.slice f T.spans.length g),I J T.size]) (by simp[results,results122,go_sem,zP,h]) rfl ⟨_,rfl,?_⟩;exact qd _ _ _ _ b c
  rw[if_neg l];have G:=Q3 l 39 rfl;clear l r;by_cases m:s[k]=91;·rw[if_pos m];have H:=QW m 91 rfl;clear m;generalize QB (s.data.toList.drop (k+1))=T at *;go_enter func122,ntmps122;go_wp2_with(first|(go_at_call 154;refine(YD _ _).mono ?_;rintro e a⟨rfl,rfl⟩;rw[p])|(go_at_call 156;refine(d _).mono ?_;rintro e a⟨rfl,rfl⟩)|(go_at_call 158;refine(q _).mono ?_;rintro e D⟨B,rfl,b,c⟩;obtain⟨f,g,rfl⟩:=zl c;obtain⟨h,z,A⟩:=qc b;simp only[zP]));refine bodyPost_ret (v:=.tuple #[zP T (.slice f T.spans.length g),I J T.size]) (by simp[results,results122,go_sem,zP,h]) rfl ⟨_,rfl,?_⟩;exact qd _ _ _ _ b c
  rw[if_neg m];have H:=Q3 m 91 rfl;clear m q;by_cases n:Qf s[k]=true;·rw[if_pos n];have u:=λw=>za5 ⟨#[47,38,33,63,42,43,40,41,46]⟩ s[k] w n;clear n;go_enter func122,ntmps122;go_wp2_with(first|(go_at_call 154;refine(YD _ _).mono ?_;rintro e a⟨rfl,rfl⟩;rw[p])|(go_at_call 156;refine(d _).mono ?_;rintro e a⟨rfl,rfl⟩)|(go_at_call 159;refine(u _).mono ?_;rintro e a⟨j,K,rfl,rfl⟩));refine bodyPost_ret (v:=.tuple #[zP ⟨.sign s[k],0,1,[],[]⟩ (.slice N 0 0),I J 1]) (by simp[results,results122,go_sem,zP,zt]) rfl ⟨_,rfl,zc _ _,World.ownsRow_nil _ _ _ _⟩
  rw[if_neg n];have u:=λw=>za4 ⟨#[47,38,33,63,42,43,40,41,46]⟩ s[k] w (by simpa[Qf]using n);clear n;go_enter func122,ntmps122;go_wp2_with(first|(go_at_call 154;refine(YD _ _).mono ?_;rintro e a⟨rfl,rfl⟩;rw[p])|(go_at_call 156;refine(d _).mono ?_;rintro e a⟨rfl,rfl⟩)|(go_at_call 159;refine(u _).mono ?_;rintro e a⟨rfl,rfl⟩)|(go_at_call 160;refine(zdR _).mono ?_;rintro e D⟨B,rfl,b,c⟩;obtain⟨f,g,rfl⟩:=zl c;obtain⟨h,z,A⟩:=qc b;simp only[zP]));refine bodyPost_ret (v:=.tuple #[zP zB (.slice f zB.spans.length g),I J zB.size]) (by simp[results,results122,go_sem,zP,h]) rfl ⟨_,rfl,?_⟩;exact qd _ _ _ _ b c
 ·have F:((k:Int)==s.size)=true:=beq_iff_eq.2 (by omega);rw[J6 s k (by omega)];go_enter func122,ntmps122;go_wp2_with fail;refine bodyPost_ret (v:=.tuple #[zP ⟨.fin,0,0,[],[]⟩ (.slice N 0 0),I J 0]) (by simp[results,results122,go_sem,zP,zt]) rfl ⟨_,rfl,zc _ _,World.ownsRow_nil _ _ _ _⟩
end
end Go.Proofs.YtiganlkabilblaaGreatDoor
