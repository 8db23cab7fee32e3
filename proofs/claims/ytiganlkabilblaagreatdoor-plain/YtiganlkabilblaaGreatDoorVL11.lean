import Derived.Test.YtiganlkabilblaaGreatDoorVL00
set_option linter.all false
set_option maxHeartbeats 64000000
set_option maxRecDepth 100000
namespace Thk
structure RE where
 kind:Nat
 items:List zR
 text:z7
 rule:Int
 parts:List Nat
structure OP where
 seqs:List Nat
 terms:List Nat
 sign:z7
structure ST where
 xs:List RE
 rs:List (z7 × Nat)
 os:List OP
 sign:z7
 may:Bool
def zE (b:z7):Nat:=if b=[63] then 7 else if b=[42] then 8 else if b=[43] then 9 else if b=[38] then 10 else 11
def zy (k e:Nat):RE:=⟨k,[],[],0,[e]⟩
def ST.add (S:ST) (e:RE):ST:={ S with xs:=S.xs++[e] }
def ST.top (S:ST):OP:=S.os.getLastD ⟨[],[],[]⟩
def ST.setTop (S:ST) (o:OP):ST:={ S with os:=S.os.dropLast++[o] }
def ST.push (S:ST) (e:Nat):ST:={ S.setTop { S.top with terms:=S.top.terms++[e] } with may:=true }
def ST.term (S:ST) (e:Nat) (sign:z7):ST:=if sign=[] then S.push e else (S.add (zy (zE sign) e)).push S.xs.length
def RE.z:RE:=⟨0,[],[],0,[]⟩
def ST.behind (S:ST) (sign:z7):ST:=
 let k:=S.top.terms.getLastD 0
 let x:=S.xs.getD k RE.z
 if x.kind=10∨x.kind=11 then
  { S with xs:=(S.xs++[zy (zE sign) (x.parts.headD 0)]).set k { x with parts:=[S.xs.length] },may:=false }
 else { (S.add (zy (zE sign) k)).setTop { S.top with terms:=S.top.terms.dropLast++[S.xs.length] } with may:=false }
def ST.slash (S:ST):ST:=(S.add ⟨5,[],[],0,S.top.terms⟩).setTop ⟨S.top.seqs++[S.xs.length],[],S.top.sign⟩
def ST.closed (S:ST):ST:=({ S.slash with os:=S.os.dropLast }:ST).add ⟨6,[],[],0,S.top.seqs++[S.xs.length]⟩
end Thk
