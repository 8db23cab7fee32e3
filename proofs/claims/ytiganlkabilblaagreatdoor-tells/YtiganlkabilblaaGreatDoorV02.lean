import Derived.Test.YtiganlkabilblaaGreatDoorV01
import Derived.Deep.RegionWith
set_option linter.all false
set_option maxHeartbeats 64000000
set_option maxRecDepth 100000
namespace Go.Proofs.YtiganlkabilblaaGreatDoor
open Tryz
open Tryz renaming prog->P
open Option renaming some->S,none->N
open Value renaming int->I
open IntKind renaming i64->J
section
open Go.RowKit
structure Kp(rb B:Nat)(w w':World):Prop where
 os:w'.os=w.os
 tape:w'.tape=w.tape
 output:w'.output=w.output
 size:w.heap.size<=w'.heap.size
 block:∀k,k<B->k≠rb->w'.heap[k]?=w.heap[k]?
theorem Kp.refl(a B:Nat)(w:World):Kp a B w w:=⟨rfl,rfl,rfl,Nat.le_refl _,λ_ _ _=>rfl⟩
theorem Kp.trans{d B:Nat}{a b c:World}(h:Kp d B a b)(k:Kp d B b c):Kp d B a c:=⟨k.os.trans h.os,k.tape.trans h.tape,k.output.trans h.output,Nat.le_trans h.size k.size,λi e f=>(k.block i e f).trans (h.block i e f)⟩
theorem Kp.mono{a B B':Nat}{w b:World}(h:Kp a B w b)(c:B'<=B):Kp a B' w b:=⟨h.os,h.tape,h.output,h.size,λk d e=>h.block k (Nat.lt_of_lt_of_le d c) e⟩
theorem Kp.of{c B:Nat}{w a:World}(h:Below B w a):Kp c B w a:=⟨h.os,h.tape,h.output,h.size,λk b _=>h.block k b⟩
theorem Kp.drewN{b B:Nat}{a w:World}(h:Kp b B a w)(q:Nat):Kp b B a (w.drewN q):=⟨h.os,h.tape,h.output,h.size,h.block⟩
theorem Kp.drew{b B:Nat}{a w:World}(h:Kp b B a w):Kp b B a w.drew:=⟨h.os,h.tape,h.output,h.size,h.block⟩
theorem Kp.alloc{b B:Nat}{a w:World}(h:Kp b B a w)(c:B<=w.heap.size)(o:Obj):Kp b B a (w.alloc o):=h.trans (.of ((Below.refl _ _).alloc c o))
theorem Kp.setRb{b B:Nat}{a w:World}(h:Kp b B a w)(o:Nat)(u:Value):Kp b B a (w.setCell ⟨b,o,N⟩ u):=h.trans ⟨rfl,rfl,rfl,by simp[World.setCell],λk _ c=>Below.heap_setCell _ _ _ _ c⟩
theorem Kp.setCell{b B:Nat}{a w:World}(h:Kp b B a w){p:Addr}(c:B<=p.block)(u:Value):Kp b B a (w.setCell p u):=h.trans (.of ((Below.refl _ _).setCell c u))
theorem Kp.grown{b B:Nat}{a w d:World}{c:Option Nat}(h:Kp b B a w)(f:w.grownBy d c)(e:B<=w.heap.size)(g:∀k,c=S k->B<=k):Kp b B a d:=h.trans (.of ((Below.refl _ _).grown f e g))
theorem JT{w i:World}{d c:Nat}{e:TypeId}{f:Nat}{v:Value}{n:Nat}{j:List Value}(h:w.ownsRow c e f v n j){l:Array Value}{o:Nat×Nat}{t:TypeId}(x:w.heap[d]?=S (.cells l t o))(s:e≠t)(q:Kp d w.heap.size w i):i.ownsRow c e f v n j:=by
 obtain⟨p,b⟩:=h;refine⟨p,?_⟩;rcases b with b|⟨g,k,m,y,u,a,r⟩;·exact Or.inl b
 ·refine Or.inr ⟨g,k,m,y,u,?_,r⟩;rw[q.block g ?_ ?_];exact a
  ·rcases Nat.lt_or_ge g w.heap.size with h|h;·exact h
   ·rw[Array.getElem?_eq_none h]at a;cases a
  ·intro e;subst e;rw[x]at a;simp at a;exact s a.2.1.symm
theorem Rd.lt{w:World}{b e f:Nat}{c:List (Tok×Value)}{n d:Nat}(h:Rd w b e f c n d):b<w.heap.size:=by
 rcases Nat.lt_or_ge b w.heap.size with a|a;·exact a
 ·have:=h.1;rw[Array.getElem?_eq_none a]at this;cases this
theorem Rd.kp{w f:World}{a c e:Nat}{b:List (Tok×Value)}{n d j g:Nat}(h:Rd w a c e b n d)(i:Kp a w.heap.size w f)(k:f.heap[a]?=S (.cells #[.slice (S ⟨c,0,N⟩) b.length e,I J j,I J g] 183 (0,0))):Rd f a c e b j g:=⟨k,⟨JT h.2.1.1 h.1 (by decide) i,λp l=>JT (h.2.1.2 p l) h.1 (by decide) i⟩,h.2.2⟩
theorem Rd.below{w w':World}{a e f:Nat}{c:List (Tok×Value)}{n d:Nat}(h:Rd w a e f c n d)(b:Below w.heap.size w w'):Rd w' a e f c n d:=h.kp (.of b) (by rw[b.block a h.lt];exact h.1)
theorem Rd.drewN{w:World}{b c e:Nat}{a:List (Tok×Value)}{n d:Nat}(h:Rd w b c e a n d)(q:Nat):Rd (w.drewN q) b c e a n d:=h
theorem zo{w:World}{b o:Nat}{cs:Array Value}{e:TypeId}{a:Nat×Nat}(h:w.heap[b]?=S (.cells cs e a))(u:Value):(w.setCell ⟨b,o,N⟩ u).heap[b]?=S (.cells (cs.setIfInBounds o u) e a):=by simp[World.setCell,Array.getElem?_modify,h]
theorem Rd.set1{w:World}{a c e:Nat}{b:List (Tok×Value)}{n d:Nat}(h:Rd w a c e b n d)(m:Nat):Rd (w.setCell ⟨a,1,N⟩ (I J m)) a c e b m d:=h.kp ((Kp.refl _ _ _).setRb _ _) (by rw[zo h.1];rfl)
theorem Rd.set2{w:World}{a c e:Nat}{b:List (Tok×Value)}{n d:Nat}(h:Rd w a c e b n d)(m:Nat):Rd (w.setCell ⟨a,2,N⟩ (I J m)) a c e b n m:=h.kp ((Kp.refl _ _ _).setRb _ _) (by rw[zo h.1];rfl)
theorem zdT(w:World)(c l m:Nat)(a:List (Tok×Value))(n d:Nat)(h:Rd w c l m a n d)(g:n+1<a.length)(hd:d<=6):Calls P 204 #[.pointer (S ⟨c,0,N⟩)] w λe o=>e=.returned (.bool (decide (d=0)&&(zt a[n+1].1.kind==3)))/\∃q,o=w.drewN q:=by
 obtain⟨p,r,s,f⟩:=h.cells;obtain⟨v,i,j,k⟩:=h.tok' (n+1) g;have t:=h.2.2.1;have u:(n:Int)+1<(a.length:Int):=by omega
 clear h i j k f;by_cases b:d=0;·subst b;go_enter func204,ntmps204;go_wp2_with fail;go_quiet(fail);go_wp2_with fail;go_ret;exact⟨by simp,_,rfl⟩
 ·have x:((d:Int)==0)=false:=beq_eq_false_iff_ne.2 (by omega);rw[decide_eq_false b];go_enter func204,ntmps204;go_wp2_with fail;go_quiet(fail);go_wp2_with fail;go_ret;exact⟨by simp,_,rfl⟩
theorem qR(w:World)(b c g:Nat)(a:List (Tok×Value))(n d:Nat)(h:Rd w b c g a n d)(j:n<a.length)(K:Int)(f:zt a[n].1.kind=K):Calls P 161 #[.pointer (S ⟨b,0,N⟩),I .u8 K] w λe k=>e=.returned (.tuple #[zP a[n].1 a[n].2,.nilIface])/\Rd k b c g a (n+1) d/\Kp b w.heap.size w k:=by
 obtain⟨q,r,s,t⟩:=h.cells;obtain⟨A,B,D,l⟩:=h.tok' n j;have u:=h.2.2.1;have x:(n:Int)<(a.length:Int):=by omega
 obtain⟨o,p,i⟩:=zl (h.2.1.2 a[n] (List.getElem_mem j));have E:(zt a[n].1.kind !=K)=false:=by rw[f];simp
 have m:Hid (zt a[n].1.kind=K):=f;have y:=h.lt;have z:c<w.heap.size:=((h.2.1.1.lt c rfl).2);rw[i]at l;have H:Hid (Rd w b c g a n d):=h;clear h f;go_enter func161,ntmps161;go_wp2_with fail;go_region;go_wp2_with fail;refine bodyPost_ret (v:=.tuple #[zP a[n].1 a[n].2,.nilIface]) (by simp[results,results161,go_sem,zP,i]) rfl ⟨rfl,?_,?_⟩;·exact(H.out.set1 (n+1)).below (((Below.refl _ _).alloc (Nat.le_refl _) _).alloc (by simp) _).drew
 ·exact((((Kp.refl _ _ _).setRb _ _).alloc (by simp) _).alloc (by simp) _).drew
theorem qQ(w:World)(b c f:Nat)(a:List (Tok×Value))(n d:Nat)(h:Rd w b c f a n d)(g:n<a.length)(K:Int)(j:zt a[n].1.kind≠K):Calls P 161 #[.pointer (S ⟨b,0,N⟩),I .u8 K] w λe k=>e=.returned (.tuple #[zP a[n].1 a[n].2,.iface 128 (.agg #[I J 2,I J a[n].1.place])])/\Rd k b c f a n d/\Kp b w.heap.size w k:=by
 obtain⟨p,r,s,t⟩:=h.cells;obtain⟨A,B,D,l⟩:=h.tok' n g;have u:=h.2.2.1;have x:(n:Int)<(a.length:Int):=by omega
 obtain⟨m,o,i⟩:=zl (h.2.1.2 a[n] (List.getElem_mem g));have E:(zt a[n].1.kind !=K)=true:=by rw[bne_iff_ne];exact j
 have y:=h.lt;have z:c<w.heap.size:=((h.2.1.1.lt c rfl).2);rw[i]at l;have H:Hid (Rd w b c f a n d):=h;clear h j;go_enter func161,ntmps161;go_wp2_with fail;go_region;go_wp2_with fail;go_region_with(go_at_call 162;refine(UU _ b c f a n d (by refine H.out.below ?_;repeat(first|exact Below.refl _ _|refine Below.drew ?_|refine Below.setCell ?_ (by simp) _|refine Below.alloc ?_ (by simp;try omega) _)) g _).mono ?_;rintro e F⟨rfl,q,rfl⟩);all_goals go_wp2_with fail
 all_goals
  refine bodyPost_ret (v:=.tuple #[zP a[n].1 a[n].2,.iface 128 (.agg #[I J 2,I J a[n].1.place])]) (by simp[results,results161,go_sem,zP,i]) rfl ⟨rfl,?_,?_⟩;·refine H.out.below ?_;repeat(first|exact Below.refl _ _|refine Below.drew ?_|refine below_drewN ?_ _|refine Below.setCell ?_ (by simp) _|refine Below.alloc ?_ (by simp;try omega) _)
  ·refine Kp.of ?_;repeat(first|exact Below.refl _ _|refine Below.drew ?_|refine below_drewN ?_ _|refine Below.setCell ?_ (by simp) _|refine Below.alloc ?_ (by simp;try omega) _)
end
end Go.Proofs.YtiganlkabilblaaGreatDoor
