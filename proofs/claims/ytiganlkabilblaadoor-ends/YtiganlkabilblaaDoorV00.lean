import Derived.Test.YtiganlkabilblaaDoorProg
import Derived.WalkKit
import Derived.WalkLawsBesides
import Derived.WalkSpells
import Derived.Lib.Bytealg
import Derived.Maps.AppendAt
set_option linter.all false
set_option maxHeartbeats 64000000
set_option maxRecDepth 100000
namespace Thk
abbrev z7:=List UInt8
def Qu (c:UInt8):Bool:=97≤c && c≤122
def Y9 (c:UInt8):Bool:=c == 32 || c == 9 || c == 10 || c == 13
def Z4:z7→Nat
 | []=>0
 | c::t=>if c=10 then 0 else Z4 t+1
def blk:Bool→z7→Nat
 | _,[]=>0
 | true,c::t=>if c=10 then blk false t+1 else blk true t+1
 | false,c::t=>if Y9 c then blk false t+1 else if c=35 then blk true t+1 else 0
def ZQ:z7→Nat
 | []=>0
 | c::t=>if Qu c then ZQ t+1 else 0
def YP (m:z7):z7→Option (UInt8 × Nat)
 | []=>none
 | d::_=>if d=110 then some (10,2) else if d=116 then some (9,2) else if d=92 || m.contains d then some (d,2) else none
def Zh (m:z7):z7→Option (UInt8 × Nat)
 | []=>none
 | c::t=>if c=92 then YP m t else if c=10 || m.contains c then none else some (c,1)
def Yk (m:z7):Nat→z7→z7 × Nat
 | 0,_=>([],0)
 | f+1,l=>match Zh m l with
  | none=>([],0)
  | some (c,n)=>(c::(Yk m f (l.drop n)).1,n+(Yk m f (l.drop n)).2)
def Qc (m:z7) (l:z7):z7 × Nat:=Yk m l.length l
abbrev zR:=UInt8 × UInt8
def ZT (l:z7):Option (zR × Nat):=
 match Zh [93,45] l with
 | none=>none
 | some (lo,n)=>
  if l[n]? = some 45 then
   match Zh [93,45] (l.drop (n+1)) with
   | none=>none
   | some (hi,k)=>if lo≤hi then some ((lo,hi),n+1+k) else none
  else some ((lo,lo),n)
def Yo:Nat→z7→List zR × Nat
 | 0,_=>([],0)
 | f+1,l=>match ZT l with
  | none=>([],0)
  | some (c,n)=>(c::(Yo f (l.drop n)).1,n+(Yo f (l.drop n)).2)
def QL (l:z7):List zR × Nat:=Yo l.length l
inductive TK where
 | fin | bad | name | arrow | lit | cls | sign (c:UInt8)
structure Tok where
 kind:TK
 place:Nat
 size:Nat
 text:z7
 spans:List zR
def Qf (c:UInt8):Bool:=[47,38,33,63,42,43,40,41,46].contains c
def zB:Tok:=⟨.bad,0,0,[],[]⟩
def ZX (l:z7) (n:Nat) (mark:UInt8) (items:Nat):Bool:=l[n]? == some mark && decide (1≤items) && decide (items≤20)
def Ql (l:z7):Tok:=if 12<ZQ l then zB else ⟨.name,0,ZQ l,l.take (ZQ l),[]⟩
def Qv (t:z7):Tok:=
 if ZX t (Qc [39] t).2 39 (Qc [39] t).1.length then ⟨.lit,0,(Qc [39] t).2+2,(Qc [39] t).1,[]⟩ else zB
def QB (t:z7):Tok:=
 if ZX t (QL t).2 93 (QL t).1.length then ⟨.cls,0,(QL t).2+2,[],(QL t).1⟩ else zB
def zM:z7→Tok
 | []=>⟨.fin,0,0,[],[]⟩
 | c::t=>
  if Qu c then Ql (c::t)
  else if c=60∧t.head? = some 45 then ⟨.arrow,0,2,[],[]⟩
  else if c=39 then Qv t
  else if c=91 then QB t
  else if Qf c then ⟨.sign c,0,1,[],[]⟩
  else zB
def TK.isArrow:TK→Bool
 | .arrow=>true
 | _=>false
def TK.last:TK→Bool
 | .fin=>true
 | .bad=>true
 | _=>false
def QC:Nat→Nat→z7→List Tok
  | 0,_,_=>[]
  | f+1,pos,l=>
    { zM (l.drop (blk false l)) with place:=pos+blk false l } ::
      (if (zM (l.drop (blk false l))).kind.last then []
       else QC f (pos+blk false l+(zM (l.drop (blk false l))).size) ((l.drop (blk false l)).drop (zM (l.drop (blk false l))).size))
def Qn (l:z7):List Tok:=QC (l.length+1) 0 l
mutual
inductive zC where
  | name (b:z7)
  | lit (b:z7)
  | cls (l:List zR)
  | any
  | group (c:List (List Term))
inductive Term where
  | mk (ahead:UInt8) (p:zC) (behind:UInt8)
 end
abbrev Seq:=List Term
abbrev Z5:=List Seq
inductive Res (α : Type) where
 | ok (a : α) (rest:List Tok)
 | err (e p:Nat)
def Res.map {α β : Type} (f : α→β):Res α→Res β
 | .ok a rest=>.ok (f a) rest
 | .err e p=>.err e p
def hd (ts:List Tok):Tok:=ts.headD zB
def zX (d:Nat) (ts:List Tok):Bool:=
 match (hd ts).kind with
 | .name=>!(d == 0 && (hd ts.tail).kind.isArrow)
 | .lit=>true
 | .cls=>true
 | .sign c=>c == 38 || c == 33 || c == 46 || c == 40
 | _=>false
def Z9 (ts:List Tok):UInt8 × List Tok:=
 match (hd ts).kind with
 | .sign c=>if c=38∨c=33 then (c,ts.tail) else (0,ts)
 | _=>(0,ts)
def Zg (ts:List Tok):UInt8 × List Tok:=
 match (hd ts).kind with
 | .sign c=>if c=63∨c=42∨c=43 then (c,ts.tail) else (0,ts)
 | _=>(0,ts)
def zU (t:Tok):Option zC:=
 match t.kind with
 | .name=>some (.name t.text)
 | .lit=>some (.lit t.text)
 | .cls=>some (.cls t.spans)
 | .sign c=>if c=46 then some .any else none
 | _=>none
mutual
inductive Qi:Nat→List Tok→Res zC→Prop
  | plain {d ts p}:zU (hd ts)=some p→Qi d ts (.ok p ts.tail)
  | bad {d ts}:zU (hd ts)=none→(hd ts).kind≠.sign 40→Qi d ts (.err 2 (hd ts).place)
  | deep {ts}:(hd ts).kind = .sign 40→Qi 6 ts (.err 3 (hd ts).place)
  | group {d ts c rest}:(hd ts).kind = .sign 40→d≠6→Z8 (d+1) ts.tail (.ok c rest)→(hd rest).kind = .sign 41→Qi d ts (.ok (.group c) rest.tail)
  | unclosed {d ts c rest}:(hd ts).kind = .sign 40→d≠6→Z8 (d+1) ts.tail (.ok c rest)→(hd rest).kind≠.sign 41→Qi d ts (.err 2 (hd rest).place)
  | inner {d ts e p}:(hd ts).kind = .sign 40→d≠6→Z8 (d+1) ts.tail (.err e p)→Qi d ts (.err e p)
inductive QF:Nat→List Tok→Res Term→Prop
  | ok {d ts p rest}:Qi d (Z9 ts).2 (.ok p rest)→QF d ts (.ok (.mk (Z9 ts).1 p (Zg rest).1) (Zg rest).2)
  | err {d ts e p}:Qi d (Z9 ts).2 (.err e p)→QF d ts (.err e p)
inductive ZW:Nat→List Tok→Res Seq→Prop
  | nil {d ts}:zX d ts=false→ZW d ts (.ok [] ts)
  | cons {d ts t rest s rest'}:zX d ts=true→QF d ts (.ok t rest)→ZW d rest (.ok s rest')→ZW d ts (.ok (t::s) rest')
  | err {d ts e p}:zX d ts=true→QF d ts (.err e p)→ZW d ts (.err e p)
  | later {d ts t rest e p}:zX d ts=true→QF d ts (.ok t rest)→ZW d rest (.err e p)→ZW d ts (.err e p)
inductive Z8:Nat→List Tok→Res Z5→Prop
  | last {d ts s rest}:ZW d ts (.ok s rest)→(hd rest).kind≠.sign 47→Z8 d ts (.ok [s] rest)
  | more {d ts s rest c rest'}:ZW d ts (.ok s rest)→(hd rest).kind = .sign 47→Z8 d rest.tail (.ok c rest')→Z8 d ts (.ok (s::c) rest')
  | err {d ts e p}:ZW d ts (.err e p)→Z8 d ts (.err e p)
  | later {d ts s rest e p}:ZW d ts (.ok s rest)→(hd rest).kind = .sign 47→Z8 d rest.tail (.err e p)→Z8 d ts (.err e p)
 end
structure ze where
 name:z7
 choice:Z5
inductive ZV:Nat→List Tok→Res ze→Prop
 | noName {n ts}:(hd ts).kind≠.name→ZV n ts (.err 2 (hd ts).place)
 | many {ts}:(hd ts).kind = .name→(hd ts.tail).kind = .arrow→ZV 20 ts (.err 4 (hd ts.tail).place)
 | noArrow {n ts}:(hd ts).kind = .name→(hd ts.tail).kind≠.arrow→ZV n ts (.err 2 (hd ts.tail).place)
 | ok {n ts c rest}:(hd ts).kind = .name→(hd ts.tail).kind = .arrow→n≠20→Z8 0 ts.tail.tail (.ok c rest)→ZV n ts (.ok ⟨(hd ts).text,c⟩ rest)
 | err {n ts e p}:(hd ts).kind = .name→(hd ts.tail).kind = .arrow→n≠20→Z8 0 ts.tail.tail (.err e p)→ZV n ts (.err e p)
inductive ZU:Nat→List Tok→Except (Nat × Nat) (List ze)→Prop
 | last {n ts r rest}:ZV n ts (.ok r rest)→(hd rest).kind = .fin→ZU n ts (.ok [r])
 | more {n ts r rest g}:ZV n ts (.ok r rest)→(hd rest).kind≠.fin→ZU (n+1) rest (.ok g)→ZU n ts (.ok (r::g))
 | err {n ts e p}:ZV n ts (.err e p)→ZU n ts (.error (e,p))
 | later {n ts r rest x}:ZV n ts (.ok r rest)→(hd rest).kind≠.fin→ZU (n+1) rest (.error x)→ZU n ts (.error x)
end Thk
namespace Go.Proofs.YtiganlkabilblaaDoor
open Go.RowKit
theorem zfv (c:UInt8):Thk.Qu c=(decide ((97:Int)≤c.toNat) && decide ((c.toNat:Int)≤122)):=by
 unfold Thk.Qu
 rw[Bool.eq_iff_iff]
 simp[UInt8.le_iff_toNat_le]
 omega
theorem YD (c:UInt8) (w:World) :
  Calls Tryd.prog 45 #[.int .u8 c.toNat] w fun e w'=>e = .returned (.bool (Thk.Qu c))∧w'=w:=by
 rw[zfv]
 go_enter Tryd.func45,Tryd.ntmps45
 go_wp2
 all_goals go_ret
 ·have h:(97:Int)≤c.toNat:=by assumption
  exact⟨by simp[h],rfl⟩
 ·have h:¬ (97:Int)≤c.toNat:=by omega
  exact⟨by simp[h],rfl⟩
theorem za3 (s:ByteArray) (c:Int) (w:World) :
  Calls Tryd.prog 50 #[.string s,.int .u8 c] w fun e w'=>e = .returned (.int .i64 (Lib.indexByte s.data.toList c.toNat.toUInt8))∧w'=w:=by
 have h6:=@run_callFunc_extern Tryd.prog 65 _ Extern.BytealgIndexByte.indexByte Tryd.func65 (by kernel_rfl) (by kernel_rfl) (by kernel_rfl) (by kernel_rfl)
 have h7:=@Lib.run_indexByteString Tryd.prog
 go_enter Tryd.func50,Tryd.ntmps50
 go_wp2
 go_ret
 exact⟨rfl,rfl⟩
theorem zbI (s:ByteArray) (c:Int) (w:World) (j:Int) (h:Lib.indexByte s.data.toList c.toNat.toUInt8=j) :
  Calls Tryd.prog 50 #[.string s,.int .u8 c] w fun e w'=>e = .returned (.int .i64 j)∧w'=w:=h ▸ za3 s c w
theorem zfq (l:List UInt8):(Lib.indexByte l 10 = -1∧Thk.Z4 l=l.length)∨(Lib.indexByte l 10=Thk.Z4 l∧Thk.Z4 l<l.length):=by
 induction l with
 | nil=>left;simp[Lib.indexByte,Thk.Z4]
 | cons b l ih=>
  by_cases hb:b=10
  ·right;simp[Lib.indexByte,Thk.Z4,hb]
  ·rcases ih with ⟨h1,h2⟩ | ⟨h1,h2⟩
   ·left;simp[Lib.indexByte,Thk.Z4,hb,h1,h2]
   ·right
    have:¬ ((Thk.Z4 l:Int) = -1):=by omega
    simp[Lib.indexByte,Thk.Z4,hb,h1,h2,this]
theorem UH (s:ByteArray) (k:Nat):(s.extract k s.size).data.toList=s.data.toList.drop k:=by
 rw[ByteArray.data_extract,Array.toList_extract,List.extract_eq_take_drop]
 exact List.take_of_length_le (by rw[List.length_drop];exact Nat.le_refl _)
theorem zfM (s:ByteArray) (k:Nat) (w:World) (hk:k≤s.size) (hs:s.size≤2000) :
  Calls Tryd.prog 44 #[.string s,.int .i64 k] w fun e w'=>e = .returned (.int .i64 ↑(k+Thk.Z4 (s.data.toList.drop k)))∧w'=w:=by
 have hx:=UH s k
 have hl:(s.data.toList.drop k).length=s.size - k:=List.length_drop
 rcases zfq (s.data.toList.drop k) with ⟨h1,h2⟩ | ⟨h1,h2⟩
 ·rw[hl] at h2
  have hc:=zbI (s.extract k s.size) 10 w (-1) (by rw[hx];exact h1)
  have he:((k+Thk.Z4 (s.data.toList.drop k):Nat):Int)=s.size:=by omega
  rw[he]
  clear hx hl h1 h2 he
  go_enter Tryd.func44,Tryd.ntmps44
  go_wp2_with (go_at_call 50;refine hc.mono ?_;rintro e w' ⟨rfl,rfl⟩)
  go_ret
  exact⟨rfl,rfl⟩
 ·rw[hl] at h2
  generalize Thk.Z4 (s.data.toList.drop k)=n at *
  have hc:=zbI (s.extract k s.size) 10 w n (by rw[hx];exact h1)
  clear hx hl h1
  go_enter Tryd.func44,Tryd.ntmps44
  go_wp2_with (go_at_call 50;refine hc.mono ?_;rintro e w' ⟨rfl,rfl⟩)
  go_ret
  exact⟨by simp,rfl⟩
theorem Q6 (s:ByteArray) (k:Nat) (h:k<s.size):s.data.toList.drop k=s[k]::s.data.toList.drop (k+1):=by
 have hl:k<s.data.toList.length:=h
 rw[List.drop_eq_getElem_cons hl]
 rfl
theorem J6 (s:ByteArray) (k:Nat) (h:s.size≤k):s.data.toList.drop k=[]:=List.drop_of_length_le h
theorem ze5 (l:List UInt8):Thk.blk true l=Thk.Z4 l+Thk.blk false (l.drop (Thk.Z4 l)):=by
 induction l with
 | nil=>simp[Thk.blk,Thk.Z4]
 | cons c t ih=>
  by_cases hc:c=10
  ·simp[Thk.blk,Thk.Z4,hc,Thk.Y9]
  ·simp[Thk.blk,Thk.Z4,hc,ih];omega
theorem zfP (l:List UInt8):Thk.Z4 l≤l.length:=by
 induction l with
 | nil=>simp[Thk.Z4]
 | cons c t ih=>simp only[Thk.Z4,List.length_cons];split<;>omega
theorem Kb (b:Bool) (l:List UInt8):Thk.blk b l≤l.length:=by
 induction l generalizing b with
 | nil=>cases b<;>simp[Thk.blk]
 | cons c t ih=>
  cases b<;>simp only[Thk.blk,List.length_cons]
  ·have h1:=ih false;have h2:=ih true
   split
   ·omega
   ·split<;>omega
  ·have h1:=ih false;have h2:=ih true
   split<;>omega
theorem VZ {c:UInt8} {n:Int} (h:((c.toNat:Int) == n)=true):c=UInt8.ofNat n.toNat:=by
 have h:=beq_iff_eq.1 h
 apply UInt8.toNat_inj.1
 have:=c.toNat_lt
 rw[← h]
 simp
theorem VY {c:UInt8} {n:Int} (m:UInt8) (hm:(m.toNat:Int)=n) (h:((c.toNat:Int) == n)=false):c≠m:=by
 intro e;subst e;rw[hm] at h;simp at h
theorem Vq {s:ByteArray} {j r:Nat} (hj:j<s.size) (hb:Thk.Y9 s[j]=true) (H:Hid (j+Thk.blk false (s.data.toList.drop j)=r)) :
  Hid ((j+1)+Thk.blk false (s.data.toList.drop (j+1))=r):=by
 have H:=H.out
 rw[Q6 s j hj] at H
 simp only[Thk.blk,hb,if_true] at H
 show _=_
 omega
theorem zb4 {s:ByteArray} {j r:Nat} (hj:j<s.size) (hb:s[j]=35) (H:Hid (j+Thk.blk false (s.data.toList.drop j)=r)) :
  j+Thk.Z4 (s.data.toList.drop j)≤s.size∧0<Thk.Z4 (s.data.toList.drop j) ∧
  Hid ((j+Thk.Z4 (s.data.toList.drop j))+Thk.blk false (s.data.toList.drop (j+Thk.Z4 (s.data.toList.drop j)))=r):=by
 have H:=H.out
 have hle:=zfP (s.data.toList.drop j)
 rw[List.length_drop] at hle
 have hlen:s.data.toList.length=s.size:=rfl
 rw[Q6 s j hj] at H hle ⊢
 have e1:Thk.Z4 (s[j]::s.data.toList.drop (j+1))=Thk.Z4 (s.data.toList.drop (j+1))+1:=by rw[hb];simp[Thk.Z4]
 have e2:Thk.blk false (s[j]::s.data.toList.drop (j+1))=Thk.blk true (s.data.toList.drop (j+1))+1:=by rw[hb];simp[Thk.blk,Thk.Y9]
 rw[e1] at hle ⊢
 rw[e2,ze5,List.drop_drop] at H
 refine⟨by omega,by omega,?_⟩
 show _=_
 rw[show j+(Thk.Z4 (s.data.toList.drop (j+1))+1)=(j+1)+Thk.Z4 (s.data.toList.drop (j+1)) from by omega]
 omega
theorem zb5 {s:ByteArray} {j r:Nat} (hj:j<s.size) (hb:Thk.Y9 s[j]=false) (hc:s[j]≠35) (H:Hid (j+Thk.blk false (s.data.toList.drop j)=r)):j=r:=by
 have H:=H.out
 rw[Q6 s j hj] at H
 simp[Thk.blk,hb,hc] at H
 exact H
theorem ze4 {c:UInt8} (h1:((c.toNat:Int) == 32)=false) (h2:((c.toNat:Int) == 9)=false) (h3:((c.toNat:Int) == 10)=false) (h4:((c.toNat:Int) == 13)=false):Thk.Y9 c=false:=by
 simp[Thk.Y9,VY 32 rfl h1,VY 9 rfl h2,VY 10 rfl h3,VY 13 rfl h4]
theorem ziP (s:ByteArray) (k r:Nat) (w:World) (hk:k≤s.size) (hs:s.size≤2000) (hr:Hid (k+Thk.blk false (s.data.toList.drop k)=r)) :
  Calls Tryd.prog 29 #[.string s,.int .i64 k] w fun e w'=>e = .returned (.int .i64 r)∧w'=w:=by
 go_enter Tryd.func29,Tryd.ntmps29
 go_wp2
 go_loop [1] (fun i=>∃ j:Nat,j≤s.size∧i = .int .i64 j∧Hid (j+Thk.blk false (s.data.toList.drop j)=r)) (fun i=>s.size - (intOf i).toNat)
 case atStart=>exact⟨k,hk,rfl,hr⟩
 case round=>
  obtain⟨j,hj,rfl,hH⟩:=hrel
  by_cases hlt:j<s.size
  ·go_wp2_with (go_at_call 44;refine (zfM _ _ _ (by omega) (by omega)).mono ?_;rintro e w' ⟨rfl,rfl⟩)
   ·have h:=Vq hlt (by rw[VZ ‹((s[j].toNat:Int) == 32)=true›];rfl) hH
    go_round
    case rel=>exact⟨j+1,by omega,by go_num,h⟩
    case measure=>simp[intOf];omega
   ·have h:=Vq hlt (by rw[VZ ‹((s[j].toNat:Int) == 9)=true›];rfl) hH
    go_round
    case rel=>exact⟨j+1,by omega,by go_num,h⟩
    case measure=>simp[intOf];omega
   ·have h:=Vq hlt (by rw[VZ ‹((s[j].toNat:Int) == 10)=true›];rfl) hH
    go_round
    case rel=>exact⟨j+1,by omega,by go_num,h⟩
    case measure=>simp[intOf];omega
   ·have h:=Vq hlt (by rw[VZ ‹((s[j].toNat:Int) == 13)=true›];rfl) hH
    go_round
    case rel=>exact⟨j+1,by omega,by go_num,h⟩
    case measure=>simp[intOf];omega
   ·have h:=zb4 hlt (VZ ‹((s[j].toNat:Int) == 35)=true›) hH
    go_round
    case rel=>exact⟨j+Thk.Z4 (s.data.toList.drop j),h.1,by go_num,h.2.2⟩
    case measure=>simp[intOf];omega
   ·go_ret
    have h:=zb5 hlt (ze4 (by assumption) (by assumption) (by assumption) (by assumption)) (VY 35 rfl (by assumption)) hH
    exact⟨by rw[← h];rfl,rfl⟩
  ·have h:j=r:=by have:=hH.out;rw[J6 s j (by omega)] at this;simpa [Thk.blk] using this
   have hh:Hid (j=r):=h
   clear h
   go_wp2
   go_ret
   exact⟨by rw[← hh.out];rfl,rfl⟩
def chv:Option (UInt8 × Nat)→Value
 | none=>.tuple #[.int .u8 0,.int .i64 0]
 | some (c,n)=>.tuple #[.int .u8 c.toNat,.int .i64 n]
theorem zd8 (c:UInt8):(c.toNat:Int).toNat.toUInt8=c:=by simp
theorem zbH (l:List UInt8) (c:UInt8):(l.contains c=true∧0≤Lib.indexByte l c)∨(l.contains c=false∧Lib.indexByte l c = -1):=by
 induction l with
 | nil=>right;simp[Lib.indexByte]
 | cons b l ih=>
  by_cases hb:b=c
  ·left;simp[Lib.indexByte,hb]
  ·have hb':¬ c=b:=fun h=>hb h.symm
   rcases ih with ⟨h1,h2⟩ | ⟨h1,h2⟩
   ·left
    have:¬ Lib.indexByte l c = -1:=by omega
    simp only[List.contains_eq_mem,List.mem_cons,decide_eq_true_eq] at h1 ⊢
    refine⟨Or.inr h1,?_⟩
    simp[Lib.indexByte,hb,this];omega
   ·right
    simp only[List.contains_eq_mem,List.mem_cons,decide_eq_false_iff_not] at h1 ⊢
    simp[Lib.indexByte,hb,hb',h1,h2]
theorem za5 (m:ByteArray) (c:UInt8) (w:World) (h:m.data.toList.contains c=true) :
  Calls Tryd.prog 50 #[.string m,.int .u8 c.toNat] w fun e w'=>∃ j:Int,0≤j∧e = .returned (.int .i64 j)∧w'=w:=by
 refine (za3 m c.toNat w).mono ?_
 rintro e w' ⟨rfl,rfl⟩
 rw[zd8]
 rcases zbH m.data.toList c with ⟨_,h2⟩ | ⟨h1,_⟩
 ·exact⟨_,h2,rfl,rfl⟩
 ·rw[h] at h1;cases h1
theorem za4 (m:ByteArray) (c:UInt8) (w:World) (h:m.data.toList.contains c=false) :
  Calls Tryd.prog 50 #[.string m,.int .u8 c.toNat] w fun e w'=>e = .returned (.int .i64 (-1))∧w'=w:=by
 refine (za3 m c.toNat w).mono ?_
 rintro e w' ⟨rfl,rfl⟩
 rw[zd8]
 rcases zbH m.data.toList c with ⟨h1,_⟩ | ⟨_,h2⟩
 ·rw[h] at h1;cases h1
 ·exact⟨by rw[h2],rfl⟩
theorem Q3 {c m:UInt8} (h:c≠m) (n:Int) (hn:(m.toNat:Int)=n):((c.toNat:Int) == n)=false:=by
 rw[beq_eq_false_iff_ne];intro e;apply h;apply UInt8.toNat_inj.1;omega
theorem QW {c m:UInt8} (h:c=m) (n:Int) (hn:(m.toNat:Int)=n):((c.toNat:Int) == n)=true:=by
 subst h;rw[hn];simp
theorem zeO (s mk:ByteArray) (k:Nat) (w:World) (hk:k≤s.size) (hs:s.size≤2000) :
  Calls Tryd.prog 64 #[.string s,.int .i64 k,.string mk] w fun e w'=>e = .returned (chv (Thk.YP mk.data.toList (s.data.toList.drop k)))∧w'=w:=by
 by_cases hlt:k<s.size
 ·rw[Q6 s k hlt]
  simp only[Thk.YP]
  by_cases h1:s[k]=110
  ·have t1:=QW h1 110 rfl
   rw[if_pos h1]
   clear h1
   go_enter Tryd.func64,Tryd.ntmps64
   go_wp2
   go_ret2
   exact⟨rfl,rfl⟩
  rw[if_neg h1]
  have t1:=Q3 h1 110 rfl
  clear h1
  by_cases h2:s[k]=116
  ·have t2:=QW h2 116 rfl
   rw[if_pos h2]
   clear h2
   go_enter Tryd.func64,Tryd.ntmps64
   go_wp2
   go_ret2
   exact⟨rfl,rfl⟩
  rw[if_neg h2]
  have t2:=Q3 h2 116 rfl
  clear h2
  by_cases h3:s[k]=92
  ·have t3:=QW h3 92 rfl
   rw[if_pos (by simp[h3])]
   clear h3
   go_enter Tryd.func64,Tryd.ntmps64
   go_wp2
   go_ret2
   exact⟨rfl,rfl⟩
  have t3:=Q3 h3 92 rfl
  by_cases h4:mk.data.toList.contains s[k]=true
  ·rw[if_pos (by simp only[h4,Bool.or_true])]
   clear h3
   have hc:=za5 mk s[k] w h4
   clear h4
   go_enter Tryd.func64,Tryd.ntmps64
   go_wp2_with (go_at_call 50;refine hc.mono ?_;rintro e w' ⟨j,hj,rfl,rfl⟩)
   go_ret2
   exact⟨rfl,rfl⟩
  ·rw[if_neg (by simp only[h3,h4];simp)]
   clear h3
   have h4:mk.data.toList.contains s[k]=false:=by simpa using h4
   have hc:=za4 mk s[k] w h4
   clear h4
   go_enter Tryd.func64,Tryd.ntmps64
   go_wp2_with (go_at_call 50;refine hc.mono ?_;rintro e w' ⟨rfl,rfl⟩)
   go_ret2
   exact⟨rfl,rfl⟩
 ·rw[J6 s k (by omega)]
  go_enter Tryd.func64,Tryd.ntmps64
  go_wp2
  go_ret2
  exact⟨rfl,rfl⟩
theorem zen (o:Option (UInt8 × Nat)):∃ (c:UInt8) (n:Nat),chv o = .tuple #[.int .u8 c.toNat,.int .i64 n]:=by
 cases o with
 | none=>exact⟨0,0,rfl⟩
 | some p=>exact⟨p.1,p.2,rfl⟩
theorem zeg (s mk:ByteArray) (k:Nat) (w:World) (hk:k≤s.size) (hs:s.size≤2000) :
  Calls Tryd.prog 59 #[.string s,.int .i64 k,.string mk] w fun e w'=>e = .returned (chv (Thk.Zh mk.data.toList (s.data.toList.drop k)))∧w'=w:=by
 by_cases hlt:k<s.size
 ·rw[Q6 s k hlt]
  simp only[Thk.Zh]
  by_cases h1:s[k]=92
  ·have t1:=QW h1 92 rfl
   rw[if_pos h1]
   clear h1
   have he:=zeO s mk (k+1) w (by omega) hs
   obtain⟨c,n,hcn⟩:=zen (Thk.YP mk.data.toList (s.data.toList.drop (k+1)))
   rw[hcn] at he ⊢
   clear hcn
   go_enter Tryd.func59,Tryd.ntmps59
   go_wp2_with (go_at_call 64;refine he.mono ?_;rintro e w' ⟨rfl,rfl⟩)
   go_ret2
   exact⟨rfl,rfl⟩
  rw[if_neg h1]
  have t1:=Q3 h1 92 rfl
  clear h1
  by_cases h3:s[k]=10
  ·have t3:=QW h3 10 rfl
   rw[if_pos (by simp[h3])]
   clear h3
   go_enter Tryd.func59,Tryd.ntmps59
   go_wp2
   go_ret2
   exact⟨rfl,rfl⟩
  have t3:=Q3 h3 10 rfl
  by_cases h4:mk.data.toList.contains s[k]=true
  ·rw[if_pos (by simp only[h4,Bool.or_true])]
   clear h3
   have hc:=za5 mk s[k] w h4
   clear h4
   go_enter Tryd.func59,Tryd.ntmps59
   go_wp2_with (go_at_call 50;refine hc.mono ?_;rintro e w' ⟨j,hj,rfl,rfl⟩)
   go_ret2
   exact⟨rfl,rfl⟩
  ·rw[if_neg (by simp only[h3,h4];simp)]
   clear h3
   have h4:mk.data.toList.contains s[k]=false:=by simpa using h4
   have hc:=za4 mk s[k] w h4
   clear h4
   go_enter Tryd.func59,Tryd.ntmps59
   go_wp2_with (go_at_call 50;refine hc.mono ?_;rintro e w' ⟨rfl,rfl⟩)
   go_ret2
   exact⟨rfl,rfl⟩
 ·rw[J6 s k (by omega)]
  go_enter Tryd.func59,Tryd.ntmps59
  go_wp2
  go_ret2
  exact⟨rfl,rfl⟩
def zt:Thk.TK→Int
 | .fin=>0
 | .bad=>1
 | .name=>2
 | .arrow=>3
 | .lit=>4
 | .cls=>5
 | .sign c=>c.toNat
def zP (t:Thk.Tok) (v:Value):Value:=.agg #[.int .u8 (zt t.kind),.int .i64 t.place,.string ⟨t.text.toArray⟩,v]
theorem Y3 {W w1:World} (hb:Below W.heap.size W w1):(∀ b o,b<W.heap.size→w1.cell? ⟨b,o,none⟩=W.cell? ⟨b,o,none⟩)∧(∀ b o,b<W.heap.size→w1.frozen? ⟨b,o,none⟩=W.frozen? ⟨b,o,none⟩):=
 ⟨fun b o h=>hb.cell (p:=⟨b,o,none⟩) h,fun b o h=>hb.frozen (p:=⟨b,o,none⟩) h⟩
theorem Vp (w:World) :
  Calls Tryd.prog 51 #[] w fun e w'=>e = .returned (.tuple #[zP Thk.zB (.slice none 0 0),.int .i64 0])∧Below w.heap.size w w':=by
 go_enter Tryd.func51,Tryd.ntmps51
 go_wp2
 refine bodyPost_ret (v:=.tuple #[zP Thk.zB (.slice none 0 0),.int .i64 0]) (by simp[results,Tryd.results51,go_sem,zP,zt,Thk.zB]) rfl ⟨rfl,?_⟩
 exact (Below.refl _ _).alloc (Nat.le_refl _) _
theorem Yl (s:ByteArray) (k n:Nat) (h:k+n<s.size):(s.data.toList.drop k)[n]? = some s[k+n]:=by
 rw[List.getElem?_drop]
 have hl:k+n<s.data.toList.length:=h
 rw[List.getElem?_eq_getElem hl]
 rfl
theorem Vz (s:ByteArray) (k n:Nat) (h:s.size≤k+n):(s.data.toList.drop k)[n]? = none:=by
 rw[List.getElem?_drop]
 exact List.getElem?_eq_none h
theorem zbj (s:ByteArray) (k n m:Nat) (mark:UInt8) (w:World) (hs:s.size≤2000) (hm:m≤2000) (hk:k+n≤s.size) :
  Calls Tryd.prog 60 #[.string s,.int .i64 ↑(k+n),.int .u8 mark.toNat,.int .i64 m] w fun e w'=>
   e = .returned (.bool (Thk.ZX (s.data.toList.drop k) n mark m))∧w'=w:=by
 unfold Thk.ZX
 by_cases h1:k+n<s.size
 ·rw[Yl s k n h1]
  generalize k+n=j at *
  by_cases h2:s[j]=mark
  ·have t2:((s[j].toNat:Int) == (mark.toNat:Int))=true:=by rw[h2];simp
   rw[show (some s[j] == some mark)=true from by rw[h2];simp]
   clear h2
   by_cases h3 : 1≤m
   ·rw[decide_eq_true h3]
    go_enter Tryd.func60,Tryd.ntmps60
    go_wp2
    go_ret
    refine⟨?_,rfl⟩
    simp
    omega
   ·rw[decide_eq_false h3]
    go_enter Tryd.func60,Tryd.ntmps60
    go_wp2
    go_ret
    exact⟨rfl,rfl⟩
  ·have t2:((s[j].toNat:Int) == (mark.toNat:Int))=false:=by
    rw[beq_eq_false_iff_ne];intro e;apply h2;apply UInt8.toNat_inj.1;omega
   rw[show (some s[j] == some mark)=false from by simp[h2]]
   clear h2
   go_enter Tryd.func60,Tryd.ntmps60
   go_wp2
   go_ret
   exact⟨rfl,rfl⟩
 ·rw[Vz s k n (by omega)]
  generalize k+n=j at *
  go_enter Tryd.func60,Tryd.ntmps60
  go_wp2
  go_ret
  exact⟨rfl,rfl⟩
theorem za8 (l:List UInt8):Thk.ZQ l≤l.length:=by
 induction l with
 | nil=>simp[Thk.ZQ]
 | cons c t ih=>simp only[Thk.ZQ,List.length_cons];split<;>omega
theorem Vx (s:ByteArray) (k n:Nat):s.extract k (k+n)=⟨((s.data.toList.drop k).take n).toArray⟩:=by
 apply ByteArray.ext
 rw[ByteArray.data_extract]
 apply Array.toList_inj.1
 rw[Array.toList_extract,List.extract_eq_take_drop]
 simp
theorem zgC (s:ByteArray) (k:Nat) (w:World) (hs:s.size≤2000) (hk:k≤s.size) :
    Calls Tryd.prog 46 #[.string s,.int .i64 k] w fun e w'=>
      e = .returned (.tuple #[zP (Thk.Ql (s.data.toList.drop k)) (.slice none 0 0),.int .i64 (Thk.Ql (s.data.toList.drop k)).size])∧Below w.heap.size w w':=by
  have hle:=za8 (s.data.toList.drop k)
  have hx:=Vx s k (Thk.ZQ (s.data.toList.drop k))
  rw[List.length_drop,show s.data.toList.length=s.size from rfl] at hle
  obtain⟨N,hN⟩:∃ N,N=Thk.ZQ (s.data.toList.drop k):=⟨_,rfl⟩
  obtain⟨T,hT⟩:∃ T,T=Thk.Ql (s.data.toList.drop k):=⟨_,rfl⟩
  rw[← hT]
  have hT1 : 12<N→T=Thk.zB:=by intro h;rw[hT];unfold Thk.Ql;rw[← hN,if_pos h]
  have hT2:N≤12→T=⟨.name,0,N,(s.data.toList.drop k).take N,[]⟩:=by intro h;rw[hT];unfold Thk.Ql;rw[← hN,if_neg (by omega)]
  rw[← hN] at hle hx
  have HT1:Hid (12<N→T=Thk.zB):=hT1
  have HT2:Hid (N≤12→T=⟨.name,0,N,(s.data.toList.drop k).take N,[]⟩):=hT2
  have HN:Hid (N=Thk.ZQ (s.data.toList.drop k)):=hN
  have HX:Hid (s.extract k (k+N)=⟨((s.data.toList.drop k).take N).toArray⟩):=hx
  clear hN hx hT hT1 hT2
  go_enter Tryd.func46,Tryd.ntmps46
  go_wp2
  go_loop [6] (fun i=>∃ j:Nat,j≤N∧i = .int .i64 j∧Hid (N=j+Thk.ZQ (s.data.toList.drop (k+j)))) (fun i=>N - (intOf i).toNat)
  case atStart=>exact⟨0,Nat.zero_le _,rfl,by rw[Nat.zero_add,Nat.add_zero];exact HN⟩
  case round=>
    obtain⟨j,hj,rfl,hH⟩:=hrel
    by_cases hc:∃ hlt:k+j<s.size,Thk.Qu s[k+j]=true
    · obtain⟨hlt,hc⟩:=hc
      have h1:j+1≤N∧Hid (N=(j+1)+Thk.ZQ (s.data.toList.drop (k+(j+1)))):=by
          have h:=hH.out
          rw[Q6 s (k+j) hlt] at h
          simp only[Thk.ZQ,hc,if_true] at h
          exact⟨by omega,show _=_ by rw[show k+(j+1)=k+j+1 from rfl];omega⟩
      go_wp2_with (go_at_call 45;refine (YD _ _).mono ?_;rintro e w' ⟨rfl,rfl⟩;rw[hc])
      go_round
      case rel=>exact⟨j+1,h1.1,by go_num,h1.2⟩
      case measure=>simp[intOf];omega
    · have h1:j=N:=by
        have h:=hH.out
        by_cases hlt:k+j<s.size
        · have hc':Thk.Qu s[k+j]=false:=by
            cases hx:Thk.Qu s[k+j] with
            | false=>rfl
            | true=>exact absurd ⟨hlt,hx⟩ hc
          rw[Q6 s (k+j) hlt] at h
          simp[Thk.ZQ,hc'] at h
          exact h.symm
        · rw[J6 s (k+j) (by omega)] at h
          simpa [Thk.ZQ] using h.symm
      have hc':∀ hlt:k+j<s.size,Thk.Qu s[k+j]=false:=by
        intro hlt
        cases hx:Thk.Qu s[k+j] with
        | false=>rfl
        | true=>exact absurd ⟨hlt,hx⟩ hc
      clear hc hH
      subst h1
      by_cases h12 : 12<j
      · have e1:=HT1.out h12
        subst e1
        clear HT1 HT2 HX HN
        by_cases hlt:k+j<s.size
        · have hc':=hc' hlt
          go_wp2_with (first | (go_at_call 45;refine (YD _ _).mono ?_;rintro e w' ⟨rfl,rfl⟩;rw[hc']) | (go_at_call 51;refine (Vp _).mono ?_;rintro e w1 ⟨rfl,hb⟩;obtain⟨hc1,hf1⟩:=Y3 hb;have hz:w.heap.size<w1.heap.size:=(by have:=hb.size;simp at this;omega);simp only[zP,Thk.zB,zt]))
          refine bodyPost_ret (v:=.tuple #[zP Thk.zB (.slice none 0 0),.int .i64 0]) (by simp[results,Tryd.results46,go_sem,zP,zt,Thk.zB,hc1,hz]) rfl ⟨rfl,?_⟩
          exact ((((((Below.refl _ _).alloc (Nat.le_refl _) _).trans (hb.mono (by simp))).setCell (Nat.le_refl _) _).setCell (Nat.le_refl _) _).setCell (Nat.le_refl _) _).setCell (Nat.le_refl _) _
        · clear hc'
          go_wp2_with (first | (go_at_call 51;refine (Vp _).mono ?_;rintro e w1 ⟨rfl,hb⟩;obtain⟨hc1,hf1⟩:=Y3 hb;have hz:w.heap.size<w1.heap.size:=(by have:=hb.size;simp at this;omega);simp only[zP,Thk.zB,zt]))
          refine bodyPost_ret (v:=.tuple #[zP Thk.zB (.slice none 0 0),.int .i64 0]) (by simp[results,Tryd.results46,go_sem,zP,zt,Thk.zB,hc1,hz]) rfl ⟨rfl,?_⟩
          exact ((((((Below.refl _ _).alloc (Nat.le_refl _) _).trans (hb.mono (by simp))).setCell (Nat.le_refl _) _).setCell (Nat.le_refl _) _).setCell (Nat.le_refl _) _).setCell (Nat.le_refl _) _
      · have e1:=HT2.out (by omega)
        subst e1
        have hkj:k+j≤s.size:=by omega
        by_cases hlt:k+j<s.size
        · have hc':=hc' hlt
          go_wp2_with (first | (go_at_call 45;refine (YD _ _).mono ?_;rintro e w' ⟨rfl,rfl⟩;rw[hc']))
          refine bodyPost_ret (v:=.tuple #[.agg #[.int .u8 2,.int .i64 0,.string (s.extract k (k+j)),.slice none 0 0],.int .i64 j]) (by simp[results,Tryd.results46,go_sem]) rfl ⟨by rw[HX.out];rfl,?_⟩
          exact (Below.refl _ _).alloc (Nat.le_refl _) _
        · clear hc'
          go_wp2_with fail
          refine bodyPost_ret (v:=.tuple #[.agg #[.int .u8 2,.int .i64 0,.string (s.extract k (k+j)),.slice none 0 0],.int .i64 j]) (by simp[results,Tryd.results46,go_sem]) rfl ⟨by rw[HX.out];rfl,?_⟩
          exact (Below.refl _ _).alloc (Nat.le_refl _) _
theorem Tryd.infoU8:(Tryd.prog.info? 5).map (fun i=>(i.zero,i.size,i.bytes))=some (some (.int .u8 0),1,1):=by kernel_rfl
theorem zeN {m l:List UInt8} {c:UInt8} {n:Nat} (h:Thk.YP m l=some (c,n)):n=2∧1≤l.length:=by
 cases l with
 | nil=>simp[Thk.YP] at h
 | cons d t=>
  refine⟨?_,by simp⟩
  simp only[Thk.YP] at h
  split at h
  ·simp at h;omega
  ·split at h
   ·simp at h;omega
   ·split at h
    ·simp at h;omega
    ·cases h
theorem Jg {m l:List UInt8} {c:UInt8} {n:Nat} (h:Thk.Zh m l=some (c,n)) : 1≤n∧n≤l.length:=by
 cases l with
 | nil=>simp[Thk.Zh] at h
 | cons d t=>
  simp only[Thk.Zh] at h
  split at h
  ·have:=zeN h;simp;omega
  ·split at h
   ·cases h
   ·simp at h;simp;omega
theorem zbc (m:List UInt8):∀ (f g:Nat) (l:List UInt8),l.length≤f→l.length≤g→Thk.Yk m f l=Thk.Yk m g l
 | 0,0,_,_,_=>rfl
 | 0,g+1,l,hf,_=>by
  have:l=[]:=List.length_eq_zero_iff.1 (by omega)
  subst this;simp[Thk.Yk,Thk.Zh]
 | f+1,0,l,_,hg=>by
  have:l=[]:=List.length_eq_zero_iff.1 (by omega)
  subst this;simp[Thk.Yk,Thk.Zh]
 | f+1,g+1,l,hf,hg=>by
  simp only[Thk.Yk]
  cases hc:Thk.Zh m l with
  | none=>rfl
  | some p=>
   obtain⟨c,n⟩:=p
   have:=Jg hc
   have hd:(l.drop n).length=l.length - n:=List.length_drop
   simp only[]
   rw[zbc m f g (l.drop n) (by omega) (by omega)]
theorem Um {m l:List UInt8} (h:Thk.Zh m l=none):Thk.Qc m l=([],0):=by
 unfold Thk.Qc
 cases hl:l.length with
 | zero=>rfl
 | succ f=>simp[Thk.Yk,h]
theorem qK {m l:List UInt8} {c:UInt8} {n:Nat} (h:Thk.Zh m l=some (c,n)) :
  Thk.Qc m l=(c::(Thk.Qc m (l.drop n)).1,n+(Thk.Qc m (l.drop n)).2):=by
 have hle:=Jg h
 unfold Thk.Qc
 cases hl:l.length with
 | zero=>omega
 | succ f=>
  have hd:(l.drop n).length=l.length - n:=List.length_drop
  rw[hd,hl]
  simp only[Thk.Yk,h]
  rw[zbc m f (f+1 - n) (l.drop n) (by omega) (by omega)]
theorem zeh (m l:List UInt8):(Thk.Qc m l).2≤l.length∧(Thk.Qc m l).1.length≤(Thk.Qc m l).2:=by
 generalize hn:l.length=N
 induction N using Nat.strongRecOn generalizing l with
 | ind N ih=>
  cases hc:Thk.Zh m l with
  | none=>rw[Um hc];simp
  | some p=>
   obtain⟨c,n⟩:=p
   have:=Jg hc
   rw[qK hc]
   have hd:(l.drop n).length=l.length - n:=List.length_drop
   have:=ih (N - n) (by omega) (l.drop n) (by omega)
   simp
   omega
def Vs (c:UInt8):Value:=.int .u8 c.toNat
def Kt (s:ByteArray) (k0:Nat) (X:Thk.z7 × Nat) (B:Nat) (w0:World) (j:Nat) (xs:List UInt8) (v:Value) (wr:World):Prop:=
 k0+j≤s.size∧xs.length≤j∧wr.ownsRow B 5 1 v xs.length (xs.map Vs)∧Below B w0 wr∧B≤wr.heap.size ∧
 X=(xs++(Thk.Qc [39] (s.data.toList.drop (k0+j))).1,j+(Thk.Qc [39] (s.data.toList.drop (k0+j))).2)
theorem Kt.next {s:ByteArray} {k0:Nat} {X:Thk.z7 × Nat} {B:Nat} {w0:World} {j:Nat} {xs:List UInt8} {v:Value} {wr:World} (h:Kt s k0 X B w0 j xs v wr)
  {c:UInt8} {n:Nat} (hc:Thk.Zh [39] (s.data.toList.drop (k0+j))=some (c,n)) {v':Value} {w':World} {O:Obj}
  (ho:w'.ownsRow B 5 1 v' (xs.length+1) (xs.map Vs++[Vs c])) (hg:(wr.alloc O).grownBy w' v.ownBlock):Kt s k0 X B w0 (j+n) (xs++[c]) v' w':=by
 obtain⟨h1,h2,h3,h4,h5,h6⟩:=h
 have hle:=Jg hc
 rw[List.length_drop,show s.data.toList.length=s.size from rfl] at hle
 have hs:=hg.size
 rw[show (wr.alloc O).heap.size=wr.heap.size+1 from by simp] at hs
 refine⟨by omega,by simp;omega,by simpa using ho,?_,by omega,?_⟩
 ·exact (h4.alloc h5 O).grown hg (by simp;omega) (fun g hg'=>(h3.lt g hg').1)
 ·rw[h6,qK hc,List.drop_drop,show k0+j+n=k0+(j+n) from by omega]
  simp
  omega
theorem Kt.done {s:ByteArray} {k0:Nat} {X:Thk.z7 × Nat} {B:Nat} {w0:World} {j:Nat} {xs:List UInt8} {v:Value} {wr:World} (h:Kt s k0 X B w0 j xs v wr)
  (hc:Thk.Zh [39] (s.data.toList.drop (k0+j))=none):X=(xs,j):=by
 obtain⟨_,_,_,_,_,h6⟩:=h
 rw[h6,Um hc]
 simp
theorem KF {c:UInt8} {n:Nat}:chv (some (c,n)) = .tuple #[.int .u8 c.toNat,.int .i64 n]:=rfl
theorem KE:chv none = .tuple #[.int .u8 0,.int .i64 0]:=rfl
theorem KD (s mk:ByteArray) (k:Nat) (w:World) (hk:k≤s.size) (hs:s.size≤2000) {o:Option (UInt8 × Nat)} (h:Thk.Zh mk.data.toList (s.data.toList.drop k)=o) :
  Calls Tryd.prog 59 #[.string s,.int .i64 k,.string mk] w fun e w'=>e = .returned (chv o)∧w'=w:=h ▸ zeg s mk k w hk hs
theorem zew (w:World):(convert 139 9 (.slice none 0 0)).run Tryd.prog w = .ok (.string ⟨#[]⟩) w:=by kernel_rfl
theorem zl {w:World} {B:Nat} {e:TypeId} {sz:Nat} {v:Value} {n:Nat} {xs:List Value} (h:w.ownsRow B e sz v n xs):∃ a c,v = .slice a n c:=by
 rcases h.2 with ⟨rfl,rfl⟩ | ⟨g,cap,cur,rfl,_⟩
 ·exact⟨_,_,rfl⟩
 ·exact⟨_,_,rfl⟩
theorem zfV (s:ByteArray) (k:Nat) (w:World) (hs:s.size≤2000) (hk:k<s.size) :
  Calls Tryd.prog 48 #[.string s,.int .i64 k] w fun e w'=>
   e = .returned (.tuple #[zP (Thk.Qv (s.data.toList.drop (k+1))) (.slice none 0 0),.int .i64 (Thk.Qv (s.data.toList.drop (k+1))).size])∧Below w.heap.size w w':=by
 obtain⟨X,hX⟩:∃ X,X=Thk.Qc [39] (s.data.toList.drop (k+1)):=⟨_,rfl⟩
 obtain⟨T,hT⟩:∃ T,T=Thk.Qv (s.data.toList.drop (k+1)):=⟨_,rfl⟩
 obtain⟨C,hC⟩:∃ C,C=Thk.ZX (s.data.toList.drop (k+1)) X.2 39 X.1.length:=⟨_,rfl⟩
 rw[← hT]
 have HT:Hid (T=if C then ⟨.lit,0,X.2+2,X.1,[]⟩ else Thk.zB):=by rw[hC,hX];exact hT
 have HX:Hid (X=Thk.Qc [39] (s.data.toList.drop (k+1))):=hX
 have HC:Hid (C=Thk.ZX (s.data.toList.drop (k+1)) X.2 39 X.1.length):=hC
 clear hX hT hC
 obtain⟨i0,hi,hz0,hz1,hz2⟩:=info_parts Tryd.infoU8
 go_enter Tryd.func48,Tryd.ntmps48
 go_wp2_with fail
 go_loopw [6,7] (fun v i wr=>∃ (j:Nat) (xs:List UInt8),i = .int .i64 ↑(k+1+j)∧Kt s (k+1) X (w.heap.size+1) (w.alloc (.cells #[.int .u8 0,.int .i64 0,.string ⟨#[]⟩,.slice none 0 0] 84)) j xs v wr) (fun _ i _=>s.size - (intOf i).toNat)
 case atStart=>
  refine⟨0,[],by go_num,by omega,by simp,World.ownsRow_nil _ _ _ _,Below.refl _ _,by simp,?_⟩
  rw[HX.out];simp
 case round=>
  obtain⟨j,xs,rfl,hR⟩:=hrel
  have hR1:=hR.1
  cases hc:Thk.Zh [39] (s.data.toList.drop (k+1+j)) with
  | some p=>
   obtain⟨c,n⟩:=p
   have HCC:Hid (Thk.Zh [39] (s.data.toList.drop (k+1+j))=some (c,n)):=hc
   have hcall:=KD s ⟨#[39]⟩ (k+1+j) wr (by omega) hs hc
   rw[KF] at hcall
   clear hc
   have hpos:=(Jg HCC.out).1
   have hle:=(Jg HCC.out).2
   rw[List.length_drop,show s.data.toList.length=s.size from rfl] at hle
   have ht:((n:Int) == 0)=false:=beq_eq_false_iff_ne.2 (by omega)
   have hown:=hR.2.2.1
   have hxl:=hR.2.1
   have hB:=hR.2.2.2.2.1
   go_wp2_with (first | (go_at_call 59;refine hcall.mono ?_;rintro e w' ⟨rfl,rfl⟩) | (at_builtin;refine wpList_append_own _ rfl _ _ 139 rfl (w.heap.size+1) 5 i0 (.int .u8 0) 1 1 Tryd.underlying139 hi hz0 hz1 hz2 rfl (by decide) _ _ _ rfl (hown.alloc _) ⟨w'.heap.size,0,none⟩ 1 1 [Vs c] rfl rfl ?c1 ?c2 ?c3 ?c4 ?c5 ?_))
   case c1=>exact cell_one_new _ _ _
   case c2=>intro u hu;simp at hu;subst hu;rfl
   case c3=>unfold maxLen;omega
   case c4=>omega
   case c5=>simp;omega
   intro v' w1 hown' hgrow _
   have hN:=hR.next HCC.out hown' hgrow
   clear hown' hgrow hown hB hxl hR hcall
   go_wp2
   go_roundw
   case rel=>exact⟨j+n,xs++[c],by go_num,hN⟩
   case measure=>simp[intOf];omega
  | none=>
   have hcall:=KD s ⟨#[39]⟩ (k+1+j) wr (by omega) hs hc
   rw[KE] at hcall
   have hD:=hR.done hc
   clear hc
   subst hD
   have hown:=hR.2.2.1
   have hxl:=hR.2.1
   have hB:=hR.2.2.2.2.1
   have hBl:=hR.2.2.2.1
   have hcl:=zbj s (k+1) j xs.length 39 wr hs (by omega) hR1
   rw[← HC.out] at hcl
   obtain⟨a0,cp,hv⟩:=zl hown
   subst hv
   obtain⟨hc0,hf0⟩:=Y3 (W:=w.alloc (.cells #[.int .u8 0,.int .i64 0,.string ⟨#[]⟩,.slice none 0 0] 84)) (w1:=wr) (hBl.mono (by simp))
   have hlt:w.heap.size<wr.heap.size:=by omega
   cases hCC:C with
   | true=>
    subst hCC
    simp only[if_true] at HT
    have e1:=HT.out
    subst e1
    clear HT HX
    have hconv:(convert 139 9 (.slice a0 xs.length cp)).run Tryd.prog wr = .ok (.string ⟨xs.toArray⟩) wr:=by
     rcases hown.2 with ⟨hv,hn⟩ | ⟨g,cap,cur,hv,_⟩
     ·have:xs=[]:=List.length_eq_zero_iff.1 hn
      subst this
      simp only[Value.slice.injEq] at hv
      obtain⟨rfl,_,rfl⟩:=hv
      exact zew _
     ·simp only[Value.slice.injEq] at hv
      obtain⟨rfl,_,rfl⟩:=hv
      refine run_convert_bytes_back wr _ _ 5 _ _ xs Tryd.underlying139 Tryd.underlying5 Tryd.underlying9 ?_
      intro t ht
      exact hown.cells rfl t _ (by simp[Vs,List.getElem?_eq_getElem ht])
    clear hR hown
    go_wp2_with (first | (go_at_call 59;refine hcall.mono ?_;rintro e w' ⟨rfl,rfl⟩) | (go_at_call 60;refine hcl.mono ?_;rintro e w' ⟨rfl,rfl⟩))
    refine bodyPost_ret (v:=.tuple #[.agg #[.int .u8 4,.int .i64 0,.string ⟨xs.toArray⟩,.slice none 0 0],.int .i64 (↑k+1 + ↑j+1 - ↑k)]) (by simp[results,Tryd.results48,go_sem,hc0,hlt]) rfl ⟨by rw[show ((k:Int)+1+j+1 - k)=((j+2:Nat):Int) from by omega];rfl,?_⟩
    exact ((((((Below.refl _ _).alloc (Nat.le_refl _) _).trans (hBl.mono (by simp))).setCell (Nat.le_refl _) _).setCell (Nat.le_refl _) _).setCell (Nat.le_refl _) _).setCell (Nat.le_refl _) _
   | false=>
    subst hCC
    have e1:=HT.out
    simp at e1
    subst e1
    clear HT HX hown hR
    go_wp2_with (first | (go_at_call 59;refine hcall.mono ?_;rintro e w' ⟨rfl,rfl⟩) | (go_at_call 60;refine hcl.mono ?_;rintro e w' ⟨rfl,rfl⟩) | (go_at_call 51;refine (Vp _).mono ?_;rintro e w1 ⟨rfl,hb⟩;obtain⟨hc1,hf1⟩:=Y3 hb;have hz:=hb.size;simp only[zP,Thk.zB,zt]))
    refine bodyPost_ret (v:=.tuple #[zP Thk.zB (.slice none 0 0),.int .i64 0]) (by simp[results,Tryd.results48,go_sem,zP,zt,Thk.zB,hc1,hc0,hlt,show w.heap.size<w1.heap.size from by omega]) rfl ⟨rfl,?_⟩
    exact ((((((((Below.refl _ _).alloc (Nat.le_refl _) _).trans (hBl.mono (by simp))).trans (hb.mono (by omega)))).setCell (Nat.le_refl _) _).setCell (Nat.le_refl _) _).setCell (Nat.le_refl _) _).setCell (Nat.le_refl _) _
def spv:Option (Thk.zR × Nat)→Value
 | none=>.tuple #[.agg #[.int .u8 0,.int .u8 0],.int .i64 0]
 | some (p,n)=>.tuple #[.agg #[.int .u8 p.1.toNat,.int .u8 p.2.toNat],.int .i64 n]
theorem zc (w:World) (o:Obj):Below w.heap.size w (w.alloc o):=(Below.refl _ _).alloc (Nat.le_refl _) _
theorem ziU (s:ByteArray) (k:Nat) (w:World) (hs:s.size≤2000) (hk:k≤s.size) :
  Calls Tryd.prog 61 #[.string s,.int .i64 k] w fun e w'=>e = .returned (spv (Thk.ZT (s.data.toList.drop k)))∧Below w.heap.size w w':=by
 unfold Thk.ZT
 cases hc:Thk.Zh [93,45] (s.data.toList.drop k) with
 | none=>
  have hcall:=fun w=>KD s ⟨#[93,45]⟩ k w hk hs hc
  rw[KE] at hcall
  clear hc
  go_enter Tryd.func61,Tryd.ntmps61
  go_wp2_with (go_at_call 59;refine (hcall _).mono ?_;rintro e w' ⟨rfl,rfl⟩)
  refine bodyPost_ret (v:=spv none) (by simp[results,Tryd.results61,go_sem,spv]) rfl ⟨rfl,zc _ _⟩
 | some p=>
  obtain⟨lo,n⟩:=p
  have hcall:=fun w=>KD s ⟨#[93,45]⟩ k w hk hs hc
  rw[KF] at hcall
  have hle:=Jg hc
  rw[List.length_drop,show s.data.toList.length=s.size from rfl] at hle
  obtain⟨hn1,hn2⟩:=hle
  have ht:((n:Int) == 0)=false:=beq_eq_false_iff_ne.2 (by omega)
  clear hc
  simp only[]
  by_cases h1:k+n<s.size
  ·rw[Yl s k n h1]
   have t1:((k:Int)+n == s.size)=false:=beq_eq_false_iff_ne.2 (by omega)
   by_cases h2:s[k+n]=45
   ·rw[if_pos (by rw[h2])]
    have t2:((s[k+n].toNat:Int) != 45)=false:=by rw[h2];rfl
    clear h2
    rw[List.drop_drop]
    cases hc:Thk.Zh [93,45] (s.data.toList.drop (k+(n+1))) with
    | none=>
     have hcall2:=fun w=>KD s ⟨#[93,45]⟩ (k+(n+1)) w (by omega) hs hc
     rw[KE] at hcall2
     simp only[show ((k+(n+1):Nat):Int)=(k:Int)+n+1 from by omega] at hcall2
     clear hc
     go_enter Tryd.func61,Tryd.ntmps61
     go_wp2_with fail
     refine (hcall _).mono ?_
     rintro e w' ⟨rfl,rfl⟩
     go_wp2_with fail
     refine (hcall2 _).mono ?_
     rintro e w' ⟨rfl,rfl⟩
     go_wp2_with fail
     refine bodyPost_ret (v:=spv none) (by simp[results,Tryd.results61,go_sem,spv]) rfl ⟨rfl,zc _ _⟩
    | some p=>
     obtain⟨hi,m⟩:=p
     have hcall2:=fun w=>KD s ⟨#[93,45]⟩ (k+(n+1)) w (by omega) hs hc
     rw[KF] at hcall2
     have hle:=Jg hc
     rw[List.length_drop,show s.data.toList.length=s.size from rfl] at hle
     obtain⟨hm1,hm2⟩:=hle
     simp only[show ((k+(n+1):Nat):Int)=(k:Int)+n+1 from by omega] at hcall2
     clear hc
     have t3:((m:Int) == 0)=false:=beq_eq_false_iff_ne.2 (by omega)
     simp only[]
     by_cases h4:lo≤hi
     ·rw[if_pos h4]
      have t4:(lo.toNat:Int)≤hi.toNat:=by rw[UInt8.le_iff_toNat_le] at h4;omega
      clear h4
      go_enter Tryd.func61,Tryd.ntmps61
      go_wp2_with fail
      refine (hcall _).mono ?_
      rintro e w' ⟨rfl,rfl⟩
      go_wp2_with fail
      refine (hcall2 _).mono ?_
      rintro e w' ⟨rfl,rfl⟩
      go_wp2_with fail
      refine bodyPost_ret (v:=spv (some ((lo,hi),n+1+m))) (by simp[results,Tryd.results61,go_sem,spv]) rfl ⟨rfl,zc _ _⟩
     ·rw[if_neg h4]
      have t4:¬ (lo.toNat:Int)≤hi.toNat:=by rw[UInt8.le_iff_toNat_le] at h4;omega
      clear h4
      go_enter Tryd.func61,Tryd.ntmps61
      go_wp2_with fail
      refine (hcall _).mono ?_
      rintro e w' ⟨rfl,rfl⟩
      go_wp2_with fail
      refine (hcall2 _).mono ?_
      rintro e w' ⟨rfl,rfl⟩
      go_wp2_with fail
      refine bodyPost_ret (v:=spv none) (by simp[results,Tryd.results61,go_sem,spv]) rfl ⟨rfl,zc _ _⟩
   ·rw[if_neg (by simpa using h2)]
    have t2:((s[k+n].toNat:Int) != 45)=true:=by rw[bne_iff_ne];intro e;apply h2;apply UInt8.toNat_inj.1;rw[show (45:UInt8).toNat=45 from rfl];omega
    clear h2
    go_enter Tryd.func61,Tryd.ntmps61
    go_wp2_with (go_at_call 59;refine (hcall _).mono ?_;rintro e w' ⟨rfl,rfl⟩)
    refine bodyPost_ret (v:=spv (some ((lo,lo),n))) (by simp[results,Tryd.results61,go_sem,spv]) rfl ⟨rfl,zc _ _⟩
  ·rw[Vz s k n (by omega)]
   have t1:((k:Int)+n == s.size)=true:=beq_iff_eq.2 (by omega)
   rw[if_neg (by simp)]
   go_enter Tryd.func61,Tryd.ntmps61
   go_wp2_with (go_at_call 59;refine (hcall _).mono ?_;rintro e w' ⟨rfl,rfl⟩)
   refine bodyPost_ret (v:=spv (some ((lo,lo),n))) (by simp[results,Tryd.results61,go_sem,spv]) rfl ⟨rfl,zc _ _⟩
theorem Tryd.infoSpan:(Tryd.prog.info? 144).map (fun i=>(i.zero,i.size,i.bytes))=some (some (.agg #[.int .u8 0,.int .u8 0]),2,2):=by kernel_rfl
theorem KZ {l:List UInt8} {c:Thk.zR} {n:Nat} (h:Thk.ZT l=some (c,n)) : 1≤n∧n≤l.length:=by
 unfold Thk.ZT at h
 cases hc:Thk.Zh [93,45] l with
 | none=>rw[hc] at h;cases h
 | some p=>
  obtain⟨lo,m⟩:=p
  have h1:=Jg hc
  rw[hc] at h
  simp only[] at h
  split at h
  ·cases hd:Thk.Zh [93,45] (l.drop (m+1)) with
   | none=>rw[hd] at h;cases h
   | some q=>
    obtain⟨hi,r⟩:=q
    have h2:=Jg hd
    rw[hd] at h
    simp only[] at h
    have hl:(l.drop (m+1)).length=l.length - (m+1):=List.length_drop
    split at h
    ·simp at h;omega
    ·cases h
  ·simp at h;omega
theorem zcR:∀ (f g:Nat) (l:List UInt8),l.length≤f→l.length≤g→Thk.Yo f l=Thk.Yo g l
 | 0,0,_,_,_=>rfl
 | 0,g+1,l,hf,_=>by
  have:l=[]:=List.length_eq_zero_iff.1 (by omega)
  subst this;simp[Thk.Yo,Thk.ZT,Thk.Zh]
 | f+1,0,l,_,hg=>by
  have:l=[]:=List.length_eq_zero_iff.1 (by omega)
  subst this;simp[Thk.Yo,Thk.ZT,Thk.Zh]
 | f+1,g+1,l,hf,hg=>by
  simp only[Thk.Yo]
  cases hc:Thk.ZT l with
  | none=>rfl
  | some p=>
   obtain⟨c,n⟩:=p
   have:=KZ hc
   have hd:(l.drop n).length=l.length - n:=List.length_drop
   simp only[]
   rw[zcR f g (l.drop n) (by omega) (by omega)]
theorem VU {l:List UInt8} (h:Thk.ZT l=none):Thk.QL l=([],0):=by
 unfold Thk.QL
 cases hl:l.length with
 | zero=>rfl
 | succ f=>simp[Thk.Yo,h]
theorem zcS {l:List UInt8} {c:Thk.zR} {n:Nat} (h:Thk.ZT l=some (c,n)) :
  Thk.QL l=(c::(Thk.QL (l.drop n)).1,n+(Thk.QL (l.drop n)).2):=by
 have hle:=KZ h
 unfold Thk.QL
 cases hl:l.length with
 | zero=>omega
 | succ f=>
  have hd:(l.drop n).length=l.length - n:=List.length_drop
  rw[hd,hl]
  simp only[Thk.Yo,h]
  rw[zcR f (f+1 - n) (l.drop n) (by omega) (by omega)]
def ZO (p:Thk.zR):List Value:=[.int .u8 p.1.toNat,.int .u8 p.2.toNat]
def Qr (w:World) (B:Nat) (v:Value) (xs:List Thk.zR):Prop:=w.ownsRow B 144 2 v xs.length (xs.flatMap ZO)
def Kn (s:ByteArray) (k0:Nat) (X:List Thk.zR × Nat) (B:Nat) (w0:World) (j:Nat) (xs:List Thk.zR) (v:Value) (wr:World):Prop:=
 k0+j≤s.size∧xs.length≤j∧Qr wr B v xs∧Below B w0 wr∧B≤wr.heap.size ∧
 X=(xs++(Thk.QL (s.data.toList.drop (k0+j))).1,j+(Thk.QL (s.data.toList.drop (k0+j))).2)
theorem Zv {w w':World} {base:Nat} {e:TypeId} {size:Nat} {v:Value} {n:Nat} {xs:List Value} (h:w.ownsRow base e size v n xs) (hb:Below w.heap.size w w'):w'.ownsRow base e size v n xs:=by
 obtain⟨h1,h2⟩:=h
 refine⟨h1,?_⟩
 rcases h2 with h2 | ⟨g,cap,cur,hv,hg,hh,r⟩
 ·exact Or.inl h2
 ·refine Or.inr ⟨g,cap,cur,hv,hg,?_,r⟩
  rw[hb.block g ?_];exact hh
  rcases Nat.lt_or_ge g w.heap.size with h | h
  ·exact h
  ·rw[Array.getElem?_eq_none h] at hh;cases hh
theorem Zn {w:World} {base base':Nat} {e:TypeId} {size:Nat} {v:Value} {n:Nat} {xs:List Value} (h:w.ownsRow base e size v n xs) (hb:base'≤base):w.ownsRow base' e size v n xs:=by
 obtain⟨h1,h2⟩:=h
 refine⟨h1,?_⟩
 rcases h2 with h2 | ⟨g,cap,cur,hv,hg,r⟩
 ·exact Or.inl h2
 ·exact Or.inr ⟨g,cap,cur,hv,Nat.le_trans hb hg,r⟩
theorem Kn.next {s:ByteArray} {k0:Nat} {X:List Thk.zR × Nat} {B:Nat} {w0:World} {j:Nat} {xs:List Thk.zR} {v:Value} {wr:World} (h:Kn s k0 X B w0 j xs v wr)
  {c:Thk.zR} {n:Nat} (hc:Thk.ZT (s.data.toList.drop (k0+j))=some (c,n)) {v':Value} {w1 w':World} (hb:Below wr.heap.size wr w1)
  (ho:w'.ownsRow B 144 2 v' (xs.length+1) (xs.flatMap ZO++ZO c)) (hg:w1.grownBy w' v.ownBlock):Kn s k0 X B w0 (j+n) (xs++[c]) v' w':=by
 obtain⟨h1,h2,h3,h4,h5,h6⟩:=h
 have hle:=KZ hc
 rw[List.length_drop,show s.data.toList.length=s.size from rfl] at hle
 have hs:=hg.size
 have hs1:=hb.size
 refine⟨by omega,by simp;omega,by simpa [Qr] using ho,?_,by omega,?_⟩
 ·exact (h4.trans (hb.mono h5)).grown hg (by omega) (fun g hg'=>(h3.lt g hg').1)
 ·rw[h6,zcS hc,List.drop_drop,show k0+j+n=k0+(j+n) from by omega]
  simp
  omega
theorem Kn.done {s:ByteArray} {k0:Nat} {X:List Thk.zR × Nat} {B:Nat} {w0:World} {j:Nat} {xs:List Thk.zR} {v:Value} {wr:World} (h:Kn s k0 X B w0 j xs v wr)
  (hc:Thk.ZT (s.data.toList.drop (k0+j))=none):X=(xs,j):=by
 obtain⟨_,_,_,_,_,h6⟩:=h
 rw[h6,VU hc]
 simp
theorem zcQ (s:ByteArray) (k:Nat) (w:World) (hs:s.size≤2000) (hk:k≤s.size) {o:Option (Thk.zR × Nat)} (h:Thk.ZT (s.data.toList.drop k)=o) :
  Calls Tryd.prog 61 #[.string s,.int .i64 k] w fun e w'=>e = .returned (spv o)∧Below w.heap.size w w':=h ▸ ziU s k w hs hk
theorem KC (w:World) (x y:Value) (t:TypeId):∀ j u,[x,y][j]? = some u→(w.alloc (.cells #[x,y] t)).cell? ((⟨w.heap.size,0,none⟩:Addr).add j)=some u:=by
 intro j u hj
 match j,hj with
 | 0,hj=>simp at hj;subst hj;simp[Addr.add]
 | 1,hj=>simp at hj;subst hj;simp[Addr.add]
theorem zep (s:ByteArray) (k:Nat) (w:World) (hs:s.size≤2000) (hk:k<s.size) :
  Calls Tryd.prog 49 #[.string s,.int .i64 k] w fun e w'=>∃ v,
   e = .returned (.tuple #[zP (Thk.QB (s.data.toList.drop (k+1))) v,.int .i64 (Thk.QB (s.data.toList.drop (k+1))).size])∧Below w.heap.size w w'∧Qr w' w.heap.size v (Thk.QB (s.data.toList.drop (k+1))).spans:=by
 obtain⟨X,hX⟩:∃ X,X=Thk.QL (s.data.toList.drop (k+1)):=⟨_,rfl⟩
 obtain⟨T,hT⟩:∃ T,T=Thk.QB (s.data.toList.drop (k+1)):=⟨_,rfl⟩
 obtain⟨C,hC⟩:∃ C,C=Thk.ZX (s.data.toList.drop (k+1)) X.2 93 X.1.length:=⟨_,rfl⟩
 rw[← hT]
 have HT:Hid (T=if C then ⟨.cls,0,X.2+2,[],X.1⟩ else Thk.zB):=by rw[hC,hX];exact hT
 have HX:Hid (X=Thk.QL (s.data.toList.drop (k+1))):=hX
 have HC:Hid (C=Thk.ZX (s.data.toList.drop (k+1)) X.2 93 X.1.length):=hC
 clear hX hT hC
 obtain⟨i0,hi,hz0,hz1,hz2⟩:=info_parts Tryd.infoSpan
 go_enter Tryd.func49,Tryd.ntmps49
 go_wp2_with fail
 go_loopw [6,7] (fun v i wr=>∃ (j:Nat) (xs:List Thk.zR),i = .int .i64 ↑(k+1+j)∧Kn s (k+1) X (w.heap.size+1) (w.alloc (.cells #[.int .u8 0,.int .i64 0,.string ⟨#[]⟩,.slice none 0 0] 84)) j xs v wr) (fun _ i _=>s.size - (intOf i).toNat)
 case atStart=>
  refine⟨0,[],by go_num,by omega,by simp,World.ownsRow_nil _ _ _ _,Below.refl _ _,by simp,?_⟩
  rw[HX.out];simp
 case round=>
  obtain⟨j,xs,rfl,hR⟩:=hrel
  have hR1:=hR.1
  cases hc:Thk.ZT (s.data.toList.drop (k+1+j)) with
  | some p=>
   obtain⟨c,n⟩:=p
   have HCC:Hid (Thk.ZT (s.data.toList.drop (k+1+j))=some (c,n)):=hc
   have hcall:=zcQ s (k+1+j) wr hs (by omega) hc
   simp only[spv] at hcall
   clear hc
   have hpos:=(KZ HCC.out).1
   have hle:=(KZ HCC.out).2
   rw[List.length_drop,show s.data.toList.length=s.size from rfl] at hle
   have ht:((n:Int) == 0)=false:=beq_eq_false_iff_ne.2 (by omega)
   have hown:wr.ownsRow (w.heap.size+1) 144 2 u6 xs.length (xs.flatMap ZO):=hR.2.2.1
   have hxl:=hR.2.1
   have hB:=hR.2.2.2.2.1
   go_wp2_with (first | (go_at_call 61;refine hcall.mono ?_;rintro e w1 ⟨rfl,hb1⟩;have hown1:=Zv hown hb1;have hsz1:=hb1.size) | (at_builtin;refine wpList_append_own _ rfl _ _ 82 rfl (w.heap.size+1) 144 i0 _ 2 2 Tryd.underlying82 hi hz0 hz1 hz2 rfl (by decide) _ _ _ rfl ((hown1.alloc _).alloc _) ⟨w1.heap.size+1,0,none⟩ 1 1 (ZO c) rfl rfl ?c1 ?c2 ?c3 ?c4 ?c5 ?_))
   case c1=>rw[← World.size_alloc w1 (Obj.cells #[Value.int IntKind.u8 ↑c.fst.toNat,Value.int IntKind.u8 ↑c.snd.toNat] 144)];exact KC _ _ _ _
   case c2=>intro u hu;simp[ZO] at hu;rcases hu with rfl | rfl<;>rfl
   case c3=>unfold maxLen;omega
   case c4=>omega
   case c5=>simp;omega
   intro v' w2 hown' hgrow _
   have hN:=hR.next HCC.out ((hb1.alloc hsz1 _).alloc (by simp;omega) _) hown' hgrow
   clear hown' hgrow hown hB hxl hR hcall hown1 hb1
   go_wp2
   go_roundw
   case rel=>exact⟨j+n,xs++[c],by go_num,hN⟩
   case measure=>simp[intOf];omega
  | none=>
   have hcall:=zcQ s (k+1+j) wr hs (by omega) hc
   simp only[spv] at hcall
   have hD:=hR.done hc
   clear hc
   subst hD
   have hown:wr.ownsRow (w.heap.size+1) 144 2 u6 xs.length (xs.flatMap ZO):=hR.2.2.1
   have hxl:=hR.2.1
   have hB:=hR.2.2.2.2.1
   have hBl:=hR.2.2.2.1
   have hcl:=fun w=>zbj s (k+1) j xs.length 93 w hs (by omega) hR1
   simp only[← HC.out] at hcl
   obtain⟨a0,cp,hv⟩:=zl hown
   subst hv
   have hlt:w.heap.size<wr.heap.size:=by omega
   cases hCC:C with
   | true=>
    subst hCC
    simp only[if_true] at HT
    have e1:=HT.out
    subst e1
    clear HT HX
    have HOWN:Hid (wr.ownsRow (w.heap.size+1) 144 2 (.slice a0 xs.length cp) xs.length (xs.flatMap ZO)):=hown
    clear hR hown
    go_wp2_with (first | (go_at_call 61;refine hcall.mono ?_;rintro e w1 ⟨rfl,hb1⟩;obtain⟨hc0,hf0⟩:=Y3 ((Below.mono (B':=(w.alloc (.cells #[.int .u8 0,.int .i64 0,.string ⟨#[]⟩,.slice none 0 0] 84)).heap.size) hBl (by simp)).trans (hb1.mono (by simp;omega)));have hsz1:=hb1.size;have hlt1:w.heap.size<w1.heap.size:=(by omega)) | (go_at_call 60;refine (hcl _).mono ?_;rintro e w' ⟨rfl,rfl⟩))
    refine bodyPost_ret (v:=.tuple #[.agg #[.int .u8 5,.int .i64 0,.string ⟨#[]⟩,.slice a0 xs.length cp],.int .i64 (↑k+1 + ↑j+1 - ↑k)]) (by simp[results,Tryd.results49,go_sem,hc0,hlt1]) rfl ⟨.slice a0 xs.length cp,by rw[show ((k:Int)+1+j+1 - k)=((j+2:Nat):Int) from by omega];rfl,?_,?_⟩
    ·exact (((((((((Below.refl _ _).alloc (Nat.le_refl _) _).trans (hBl.mono (by simp))).trans (hb1.mono (by omega)))).setCell (Nat.le_refl _) _).setCell (Nat.le_refl _) _).setCell (Nat.le_refl _) _).setCell (Nat.le_refl _) _).alloc (by simp;omega) _
    ·exact Zn ((ownsRow_setCell_below (ownsRow_setCell_below (ownsRow_setCell_below (ownsRow_setCell_below (Zv HOWN.out hb1) (Nat.lt_succ_self _) _) (Nat.lt_succ_self _) _) (Nat.lt_succ_self _) _) (Nat.lt_succ_self _) _).alloc _) (Nat.le_succ _)
   | false=>
    subst hCC
    have e1:=HT.out
    simp at e1
    subst e1
    clear HT HX hown hR
    go_wp2_with (first | (go_at_call 61;refine hcall.mono ?_;rintro e w1 ⟨rfl,hb1⟩;obtain⟨hc0,hf0⟩:=Y3 ((Below.mono (B':=(w.alloc (.cells #[.int .u8 0,.int .i64 0,.string ⟨#[]⟩,.slice none 0 0] 84)).heap.size) hBl (by simp)).trans (hb1.mono (by simp;omega)));have hsz1:=hb1.size;have hlt1:w.heap.size<w1.heap.size:=(by omega)) | (go_at_call 60;refine (hcl _).mono ?_;rintro e w' ⟨rfl,rfl⟩) | (go_at_call 51;refine (Vp _).mono ?_;rintro e w2 ⟨rfl,hb⟩;obtain⟨hc1,hf1⟩:=Y3 hb;have hz:=hb.size;simp only[zP,Thk.zB,zt]))
    have q:∀ o,w2.cell? ⟨w.heap.size,o,none⟩=(#[.int .u8 0,.int .i64 0,.string ⟨#[]⟩,.slice none 0 0]:Array Value)[o]? := fun o=>by
     rw[hc1 _ _ (by simp;omega),World.cell?_alloc_lt _ _ _ hlt1,hc0 _ _ (by simp)];simp
    clear hc1 hc0
    refine bodyPost_ret (v:=.tuple #[zP Thk.zB (.slice none 0 0),.int .i64 0]) (by simp[results,Tryd.results49,go_sem,zP,zt,Thk.zB,q]) rfl ⟨_,rfl,?_,World.ownsRow_nil _ _ _ _⟩
    exact ((((((((((Below.refl _ _).alloc (Nat.le_refl _) _).trans (hBl.mono (by simp))).trans (hb1.mono (by omega))).alloc (by omega) _).trans (hb.mono (by simp;omega)))).setCell (Nat.le_refl _) _).setCell (Nat.le_refl _) _).setCell (Nat.le_refl _) _).setCell (Nat.le_refl _) _
end Go.Proofs.YtiganlkabilblaaDoor
