import Derived.Test.YtiganlkabilblaaGreatDoorV38
import Derived.Test.YtiganlkabilblaaGreatDoorV29
import Derived.Laws.OwnMore
set_option linter.all false
set_option maxHeartbeats 64000000
set_option maxRecDepth 100000
namespace Go.Proofs.YtiganlkabilblaaGreatDoor
open Go.RowKit Thk
attribute [local go_sem ↓] Go.wp_at_zero Go.wp_at_succ
def treeL (x:Nat × Nt):List Nod:=(0,0,x.1,0)::flat 1 x.2
def TreeIs (t:List UInt8) (s:ByteArray) (B:Nat) (w':World) (v c:Value):Prop:=∃ res,PAll t res∧match res with
  | .error (er,_)=>v = .slice none 0 0∧c = .int .i64 er
  | .ok (g,_)=>if 200<s.size then v = .slice none 0 0∧c = .int .i64 1 else ∃ o,(∀ h : 0<g.length,Ev g s.data.toList (.C g[0].choice) 0 o)∧c = .int .i64 0∧(match o with
   | none=>v = .slice none 0 0
   | some x=>∃ a cp,v = .slice a (treeL x).length cp∧w'.ownsRow B 60 4 (.slice a (treeL x).length cp) (treeL x).length ((treeL x).flatMap nodC))
def zdX (t:List UInt8) (s:ByteArray) (w:World) (e:Ending) (w':World):Prop:=Below w.heap.size w w'∧∃ v c,e = .returned (.tuple #[v,c])∧TreeIs t s w.heap.size w' v c
theorem ze8 {g:List Rule} {E:List Bool} (hE:Ends' g E) (hgl:g.length≤20) {inp:Bytes} (hi:inp.length≤200) {x:Nat × Nt} (h:∀ h : 0<g.length,Ev g inp (.C g[0].choice) 0 (some x)):szN x.2≤4000:=by
 have h1:=Ev.few hE (h hE.pos) (hE.good 0 hE.pos)
 have h2:g.length * inp.length≤20 * 200:=Nat.mul_le_mul hgl hi
 omega
theorem rtree_any (t s:ByteArray) (w:World) (hs:t.size≤maxLen) (hs2:s.size≤maxLen) (r:Except (Nat × Nat) (List Rule)) (hP:PRead t.data.toList r) :
  Calls Tryz.prog 47 #[.string t,.string s] w fun e w'=>zdX t.data.toList s w e w':=by
 have hbg:=rbegun_any t s w hs hs2 r hP
 clear hP
 go_enter Tryz.func47,Tryz.ntmps47
 go_wp2_with fail
 refine hbg.mono ?_
 rintro e w1 ⟨hb,res,hP,hE⟩
 have HB:=hideP hb
 have HP:=hideP hP
 clear hbg hb hP
 cases res with
 | error x=>
  obtain⟨er,p⟩:=x
  obtain⟨h0,rfl⟩:=hE
  have h1:¬ (er:Int)=0:=by omega
  go_wp2_with fail
  go_ret2
  exact⟨HB.out,_,_,rfl,.error (er,p),HP.out,rfl,rfl⟩
 | ok y=>
  obtain⟨g,E⟩:=y
  simp only[] at hE
  by_cases hlong : 200<s.size
  ·rw[if_pos hlong] at hE
   subst hE
   go_wp2_with fail
   go_ret2
   refine⟨HB.out,_,_,rfl,.ok (g,E),HP.out,?_⟩
   simp only[]
   rw[if_pos hlong]
   exact⟨rfl,rfl⟩
  ·rw[if_neg hlong] at hE
   obtain⟨tb,n,rfl,hok⟩:=hE
   obtain⟨o,ho⟩:=zer (inp:=s.data.toList) HP.out.ends
   have hn:=hok.val o (fun _=>ho)
   subst hn
   have hgp:=HP.out.ends.pos
   cases o with
   | none=>
    have hfe:encR (fin none) = -1:=rfl
    simp only[hfe]
    have HO:=hideP ho
    clear hok hfe ho
    go_wp2_with fail
    go_ret2
    refine⟨HB.out,_,_,rfl,.ok (g,E),HP.out,?_⟩
    simp only[]
    rw[if_neg hlong]
    exact⟨none,fun _=>HO.out,rfl,rfl⟩
   | some x=>
    obtain⟨e1,m⟩:=x
    obtain⟨w0,B,gb,eb,ec,vx,vr,ps,rs,rbs,hww,hEn,hSt,hden⟩:=hok.ex
    have hfe:encR (fin (some (e1,m)))=(e1:Int):=rfl
    simp only[hfe]
    have hx0:¬ (e1:Int)<0:=by omega
    have hx1:decide ((e1:Int)<0)=false:=by simp
    obtain⟨htl,hsz,hold,q⟩:=hSt.cells
    obtain⟨rg,rc,hvr,_,hrgl⟩:=hEn.gm.ruAt hEn.rpos
    have hrp:=hEn.rpos
    have hgm:=hEn.gm
    have hrs:rs.length=g.length:=(DenR.get rs g hden).1
    have hgl:g.length≤20:=by have:=hEn.rle;omega
    have hsl:=hEn.sle
    subst hvr
    have d1:=(hgm.ruCells 0 hrp).2
    have d1':w1.cell? ⟨rg,1,none⟩=some (.int .i64 rs[0].2):=by rw[World.cell?_of_block (a:=⟨rg,_,none⟩) (hold rg hrgl)];simpa using d1
    have q1:w1.cell? ⟨tb,1,none⟩=some (.slice (some ⟨rg,0,none⟩) rs.length rc):=q 1
    have hdb:=zde hden hrp hgp
    obtain⟨f,hf⟩:=(Ev.pgroup ho).simD hden e1 m rfl _ hdb 1
    have hsm:=ze8 HP.out.ends hgl (show s.data.toList.length≤200 by show s.size≤200;omega) (x:=(e1,m)) (fun _=>ho)
    simp only[] at hsm
    have helt:eb<w1.heap.size:=by obtain⟨M,hT,_⟩:=hSt.ex;exact hT.elt
    have hrge:∀ b ∈ rbs,w0.heap.size≤b:=by obtain⟨M,hT,_⟩:=hSt.ex;exact hT.rge
    have hrow:=World.ownsRow_lit (base:=w1.heap.size) (e:=60) (size:=4) w1 #[.int .i64 ((0:Nat):Int),.int .i64 ((0:Nat):Int),.int .i64 (e1:Int),.int .i64 ((0:Nat):Int)] 1 (Nat.le_refl _) (by decide) rfl
    have hnd:NdS w0 tb eb ec w1.heap.size vx (.slice (some ⟨rg,0,none⟩) rs.length rc) ps rs s rbs (some ⟨w1.heap.size,0,none⟩) 1 [(0,0,e1,0)] (w1.alloc (.cells #[.int .i64 ((0:Nat):Int),.int .i64 ((0:Nat):Int),.int .i64 (e1:Int),.int .i64 ((0:Nat):Int)] 60 (0,0))):=
     ⟨hSt.below (za1 _ _),hrow,htl,helt,hSt.fresh,hsz,by simp⟩
    have HC:=hideP (nodes_all hEn f _ rs[0].2 0 1 (some ⟨w1.heap.size,0,none⟩) 1 [(0,0,e1,0)] (flat 1 m) hnd (Nat.zero_le _) hf (by rw[zc5];simp;omega) (by rw[zc5];omega))
    have HZ:Hid (∀ e' w2,NdPost w0 tb eb ec w1.heap.size vx (.slice (some ⟨rg,0,none⟩) rs.length rc) ps rs s rbs (some ⟨w1.heap.size,0,none⟩) 1 [(0,0,e1,0)] (flat 1 m) (w1.alloc (.cells #[.int .i64 ((0:Nat):Int),.int .i64 ((0:Nat):Int),.int .i64 (e1:Int),.int .i64 ((0:Nat):Int)] 60 (0,0))) e' w2→∃ a2 n2 c2,e' = .returned (.slice a2 n2 c2)∧Hid (zdX t.data.toList s w (.returned (.tuple #[.slice a2 n2 c2,.int .i64 0])) w2)):=hideP (fun e' w2 hP2=>by
     obtain⟨a2,c2,he,h1,h2,h3⟩:=hP2
     have hz:=HB.out.size
     have hz2:=h2.size
     simp at hz2
     refine⟨a2,_,c2,he,hideP ⟨⟨h2.os.trans HB.out.os,h2.tape.trans HB.out.tape,h2.output.trans HB.out.output,by omega,fun b hb=>?_⟩,_,_,rfl,.ok (g,E),HP.out,?_⟩⟩
     ·rw[h2.block b (by simp;omega) (fun hb'=>by have:=hrge b hb';omega) (by simp[obS,Value.ownBlock];omega),za5 _ _ (by omega)]
      exact HB.out.block b hb
     ·simp only[]
      rw[if_neg hlong]
      exact⟨some (e1,m),fun _=>ho,by simp,a2,c2,rfl,zan h1.row (by omega)⟩)
    have hrp':(0:Int)<rs.length:=by omega
    have hrg2:rg<w1.heap.size:=by omega
    simp only[List.length_singleton,Int.natCast_zero,Int.natCast_one] at HC HZ
    generalize rs[0].2=bd at *
    clear hok hEn hSt hden hold q hgm d1 hdb hf hsm hrow hnd hrs
    go_wp2_with fail
    refine (HC.out.mono (fun e' w2 hP2=>HZ.out e' w2 hP2)).mono ?_
    rintro _ w2 ⟨a2,n2,c2,rfl,HZ2⟩
    clear HC HZ
    simp only[]
    go_wp2_with fail
    go_ret2
    exact HZ2.out
end Go.Proofs.YtiganlkabilblaaGreatDoor
