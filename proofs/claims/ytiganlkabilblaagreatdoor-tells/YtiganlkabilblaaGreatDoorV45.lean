import Derived.Test.YtiganlkabilblaaGreatDoorV44
import Derived.Deep.RegionHeldLaw
import Derived.Deep.RegionLaw
import Derived.Deep.DrawnRows
set_option linter.all false
set_option maxHeartbeats 64000000
set_option maxRecDepth 100000
namespace Go.Proofs.YtiganlkabilblaaGreatDoor
open Tryz
open Tryz renaming prog->P
open Option renaming some->S,none->N
open Value renaming int->I
open IntKind renaming i64->J
section
open Go.RowKit
attribute [local go_sem ↓] Go.wp_at_zero Go.wp_at_succ
theorem infoARule:(prog.info? 151).map (λi=>(i.zero,i.size,i.bytes))=S (S (.agg #[.string ⟨#[]⟩,.bool false]),2,24):=by kernel_rfl
def zr0(a:List z7)(E:List Bool):List (z7×Bool):=a.zip E
theorem ztn{w1:World}{B:Nat}{L:List (z7×Bool)}{i:Nat}(a:i<L.length){g cap:Nat}(h:w1.ownsRow B 151 2 (.slice (S ⟨g,0,N⟩) ((L.take i).length+1) cap) ((L.take i).length+1) ((L.take i).flatMap zrM++[.string ⟨L[i].1.toArray⟩,.bool L[i].2])):Told w1 B (.slice (S ⟨g,0,N⟩) ((L.take i).length+1) cap) (L.take (i+1)):=by have e:L.take (i+1)=L.take i++[L[i]]:=List.take_succ_eq_append_getElem a;unfold Told;rw[e,List.flatMap_append,List.length_append];exact h
theorem zuj{W wr d:World}{O:Obj}{L:List (z7×Bool)}{i:Nat}{n:Option Addr}{o:Nat}{m:z7}{b:Bool}{h f:Nat}(a:Below W.heap.size W wr)(s:wr.ownsRow W.heap.size 151 2 (.slice n i o) i ((L.take i).flatMap zrM))(q:i<L.length)(p:L[i]=(m,b))(t:d.ownsRow W.heap.size 151 2 (.slice (S ⟨h,0,N⟩) (i+1) f) (i+1) ((L.take i).flatMap zrM++[.string ⟨m.toArray⟩,.bool b]))(c:((wr.alloc O).drew).grownBy d (Value.slice n i o).ownBlock):Below W.heap.size W d/\Told d W.heap.size (.slice (S ⟨h,0,N⟩) (i+1) f) (L.take (i+1)):=by
 have v:=a.size;have u:=c.size;have j:((wr.alloc O).drew).heap.size=wr.heap.size+1:=by show(wr.alloc O).heap.size=_;simp
 rw[j]at u;refine⟨⟨c.os.trans a.os,c.tape.trans a.tape,c.output.trans a.output,by omega,λk r=> ?_⟩,?_⟩;·rw[c.block k (by rw[j];omega) (λe=>by have:=(s.lt k e.symm).1;omega)];show(wr.alloc O).heap[k]?=_;rw[zm _ _ (by omega)];exact a.block k r
 ·have l:(L.take i).length=i:=by rw[List.length_take];omega
  have:=ztn (w1:=d) (B:=W.heap.size) q (g:=h) (cap:=f) (by rw[l,p];exact t);rw[l]at this;exact this
theorem zui(s:ByteArray)(w:World)(hs:s.size<=maxLen)(r:Except (Nat×Nat) (List ze))(y:Zs s.data.toList r):Calls P 43 #[.string s] w λe w'=>Below w.heap.size w w'/\∃G,Zo s.data.toList G/\match G with| .ok (g,E)=>∃v,e=.returned (.tuple #[v,I J 0])/\Told w' w.heap.size v (zr0 (zg g) E)| .error (t,_)=>t≠0/\e=.returned (.tuple #[.slice N 0 0,I J t]):=by
 have a5:=zco s w hs r y;clear y;go_enter func43,ntmps43;go_wp2_with fail;refine a5.mono ?_;rintro e k⟨o,G,y,hE⟩;have X:=z6 o;have Z:=z6 y;have hz:=o.size;clear a5 o y;cases G with
 |error x=>
  obtain⟨t,p⟩:=x;obtain⟨h0,H,xn,K,ra,rn,F,rfl⟩:=hE;have n:¬(t:Int)=0:=by omega
  go_wp2_with fail;go_ret2;exact⟨X.out.alloc hz _,.error (t,p),Z.out,h0,rfl⟩
 |ok x=>
  obtain⟨g,E⟩:=x;obtain⟨vx,vr,gb,lb,D,c,l,rfl,j⟩:=hE;obtain⟨H,K,a9⟩:=zl j.mem.ex;rw[List.length_map]at a9;obtain⟨h,F,ao,_,an⟩:=j.mem.ruAt j.rpos;subst a9;subst ao;obtain⟨i0,aj,ap,aq,ar⟩:=info_parts infoARule;have ak:=za j.row;have aF:=j.rle;have aE:=j.ple;obtain⟨W,z⟩:∃W,W=k.alloc (YB (.slice H D.length K) (.slice (S ⟨h,0,N⟩) c.length F)):=⟨_,rfl⟩;have a0:Below k.heap.size k W:=by rw[z];exact zc _ _
  have a1:W.heap[k.heap.size]?=S (YB (.slice H D.length K) (.slice (S ⟨h,0,N⟩) c.length F)):=by rw[z];exact zk _ _
  have az:W.heap.size=k.heap.size+1:=by rw[z];simp
  have f:=z6 j;have L:=z6 a0;have ag:=z6 a1;have ad:Hid (Told W W.heap.size (.slice N 0 0) ((zr0 (zg g) E).take 0)):=World.ownsRow_nil _ _ _ _;clear j a0 a1;go_wp2_with fail;rw[<-z];clear z;go_loopg[8,9] c.length (λm vo vi wr=>∃i:Nat,m=c.length-i/\vi=I J i/\i<=c.length/\Hid (Below W.heap.size W wr/\Told wr W.heap.size vo ((zr0 (zg g) E).take i)));case atStart=>exact⟨0,by omega,rfl,by omega,Below.refl _ _,ad.out⟩
  case round=>
   obtain⟨i,rfl,rfl,hi,d⟩:=hrel;have U:wr.heap[k.heap.size]?=S (YB (.slice H D.length K) (.slice (S ⟨h,0,N⟩) c.length F)):=by rw[d.out.1.block _ (by omega)];exact ag.out
   have q:=z8 U;have aB:=za U;by_cases A:i<c.length
   ·have am:(i:Int)<c.length:=by omega
    have V:i<(zr0 (zg g) E).length:=by
     have n:(zg g).length=c.length:=by rw[<-zV.names c g f.out.den];simp
     have M:E.length=c.length:=by rw[f.out.eof];simp[Eof]
     simp[zr0,n,M];exact A
    have O:(zr0 (zg g) E)[i]=(c[i].1,l.getD c[i].2 false):=by
     have n:(zg g)[i]?=S c[i].1:=by rw[<-zV.names c g f.out.den];simp[A]
     have M:E[i]?=S (l.getD c[i].2 false):=by rw[f.out.eof];simp[Eof,A]
     have h3:(zr0 (zg g) E)[i]?=S (c[i].1,l.getD c[i].2 false):=by unfold zr0;rw[List.getElem?_zip_eq_some];exact⟨n,M⟩
     rw[List.getElem?_eq_getElem V]at h3;exact Option.some.inj h3
    have R:wr.heap[h]?=k.heap[h]?:=by rw[d.out.1.block _ (by omega)];exact L.out.block _ an
    have a2:wr.heap[lb]?=k.heap[lb]?:=by rw[d.out.1.block _ (by omega)];exact L.out.block _ ak
    obtain⟨d0,d1⟩:=f.out.mem.ruCells i A;have ax:wr.cell? ⟨h,i *2,N⟩=S (.string ⟨c[i].1.toArray⟩):=by rw[World.cell?_of_block (a:=⟨h,_,N⟩) R];exact d0
    have ay:wr.cell? ⟨h,i *2+1,N⟩=S (I J c[i].2):=by rw[World.cell?_of_block (a:=⟨h,_,N⟩) R];exact d1
    have ai:=f.out.fits.ru c[i] (List.getElem_mem A);have aA:(c[i].2:Int)<D.length:=by omega
    have al:=Y4 (a2.trans f.out.row) c[i].2 (by rw[f.out.len];exact ai);obtain⟨oa,oc,a8⟩:=zl d.out.2;have B:(List.take i (zr0 (zg g) E)).length=i:=by rw[List.length_take];omega
    rw[B]at a8;subst a8;obtain⟨b,o⟩:∃b,b=l.getD c[i].2 false:=⟨_,rfl⟩;rw[<-o]at al O;have Y:Hid (wr.ownsRow W.heap.size 151 2 (.slice oa i oc) i ((List.take i (zr0 (zg g) E)).flatMap zrM)):=by have:=d.out.2;unfold Told at this;rw[B]at this;exact this
    have ab:=z6 O;have au:=z6 V;have av:=z6 B;have af:Hid (((wr.alloc (.cells #[.string ⟨c[i].1.toArray⟩,.bool b] 151)).drew).heap[wr.heap.size]?=S (.cells #[.string ⟨c[i].1.toArray⟩,.bool b] 151 (0,0))):=zk wr _;have H1:Hid (∀u∈[Value.string ⟨c[i].1.toArray⟩,.bool b],u.oneCell'=true):=by intro u hu;simp at hu;rcases hu with rfl|rfl<;>rfl
    have ae:Hid (i+1<=maxLen):=by show _<=_;unfold maxLen;omega
    have aG:=d.out.1.size;clear d0 d1 o O B R a2 U;go_wp2_with fail;go_region_law ((refine step_append_lies _ (by rfl) _ _ _ (by rfl) W.heap.size 151 i0 _ 2 24 underlying92 aj ap aq ar (by rfl) (by decide) _ _ _ (by rfl) (Y.out.alloc _) ⟨wr.heap.size,0,N⟩ 1 1 [.string ⟨c[i].1.toArray⟩,.bool b] (by rfl) (by rfl) (World.news_of_block af.out) H1.out (by decide) ae.out (by omega) (by simp;omega) (wr.heap.size+1) (by simp) ?_;intro g2 aw w2 a7 a4 ah aD;have HA:=z6 (zuj d.out.1 Y.out V ab.out a7 a4);clear a7 a4 ah));all_goals go_wp2_with fail
    all_goals
     go_roundg (c.length-(i+1));case measure=>omega
     case rel=>exact⟨i+1,rfl,by go_num,by omega,HA⟩
   ·have am:¬(i:Int)<c.length:=by omega
    have aC:i=c.length:=by omega
    have a6:(zr0 (zg g) E).length<=i:=by
     have n:(zg g).length=c.length:=by rw[<-zV.names c g f.out.den];simp
     simp[zr0,n];omega
    have a3:Told wr W.heap.size u8 (zr0 (zg g) E):=by have:=d.out.2;rw[List.take_of_length_le a6]at this;exact this
    have HF:=z6 (Zn a3 (show w.heap.size<=W.heap.size by omega));have aa:Hid (Below w.heap.size w wr):=(X.out.trans (L.out.mono hz)).trans (d.out.1.mono (by omega));clear a3 a6;go_wp2_with fail;go_ret2;exact⟨aa.out,.ok (g,E),Z.out,_,rfl,HF.out⟩
end
end Go.Proofs.YtiganlkabilblaaGreatDoor
