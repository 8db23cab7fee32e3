import Derived.Test.YtiganlkabilblaaGreatDoorV36
import Derived.Test.YtiganlkabilblaaGreatDoorV17
import Derived.Test.YtiganlkabilblaaGreatDoorV16
import Derived.Test.YtiganlkabilblaaGreatDoorV33
set_option linter.all false
set_option maxHeartbeats 64000000
set_option maxRecDepth 100000
namespace Go.Proofs.YtiganlkabilblaaGreatDoor
open Go.RowKit
attribute [local go_sem ↓] Go.wp_at_zero Go.wp_at_succ
structure LdOk (w':World) (B:Nat) (g:List Thk.ze) (E:List Bool) (vx vr:Value) (gb lb:Nat) (ps:List (Thk.RE × Value × Value)) (rs:List (Thk.z7 × Nat)) (l:List Bool):Prop where
 mem:GM w' B gb vx vr (ps.map (ZY (zj rs))) rs
 row:w'.heap[lb]? = some (zH l)
 len:l.length=ps.length
 fits:K5 ps rs
 den:Thk.zV (zK ps) rs g
 lp:LP (zK ps) (zj rs) E l
 eof:E=Eof (Zp rs) l
 rle:rs.length≤20
 rpos : 0<rs.length
 ple:ps.length≤10000
def zdu (t:List UInt8) (w:World) (e:Ending) (w':World):Prop:=
 Below w.heap.size w w'∧∃ res,Zo t res∧match res with
  | .error (er,p)=>er≠0∧∃ (xa:Option Addr) (xn xc:Nat) (ra:Option Addr) (rn rc:Nat),e = .returned (.tuple #[.agg #[.slice xa xn xc,.slice ra rn rc],.slice none 0 0,.int .i64 er,.int .i64 p])
  | .ok (g,E)=>∃ vx vr gb lb ps rs l,e = .returned (.tuple #[.agg #[vx,vr],.slice (some ⟨lb,0,none⟩) ps.length ps.length,.int .i64 0,.int .i64 0])∧LdOk w' w.heap.size g E vx vr gb lb ps rs l
theorem GM.setLow {w:World} {B gb:Nat} {vx vr:Value} {ps:List (Thk.RE × Value × Value)} {rs:List (Thk.z7 × Nat)} (h:GM w B gb vx vr ps rs) {b:Nat} (hb:b<B) (hg:gb≠b) (o:Nat) (u:Value):GM (w.setCell ⟨b,o,none⟩ u) B gb vx vr ps rs:=
 ⟨by rw[Below.heap_setCell _ _ _ _ (by show gb≠b;exact hg)];exact h.blk,ZL h.ex hb,ZL h.ru hb,fun p hp=>ZL (h.items p hp) hb,fun p hp=>ZL (h.parts p hp) hb⟩
theorem GM.mono {w:World} {B B' gb:Nat} {vx vr:Value} {ps:List (Thk.RE × Value × Value)} {rs:List (Thk.z7 × Nat)} (h:GM w B gb vx vr ps rs) (hb:B'≤B):GM w B' gb vx vr ps rs:=
 ⟨h.blk,Zn h.ex hb,Zn h.ru hb,fun p hp=>Zn (h.items p hp) hb,fun p hp=>Zn (h.parts p hp) hb⟩
theorem Vv {ps:List (Thk.RE × Value × Value)} {rs:List (Thk.z7 × Nat)} {g:List Thk.ze} (h:Thk.zV (zK ps) rs g) {i:Nat} (hi:i<rs.length) (hg:i<g.length):Thk.zw (zK ps) rs[i].2 (.group g[i].choice):=by
 have:=((zV.get rs g h).2 i hg).2
 rw[List.getD_eq_getElem?_getD,List.getElem?_map,List.getElem?_eq_getElem hi] at this
 exact this
def Kh (names:List Thk.z7) (E:List Bool) (g:List Thk.ze) (k:Nat):List Nat:=(Thk.ZC (Eb names E) ((g[k]?.map (·.choice)).getD [])).map (idx0 names)
theorem zae {names:List Thk.z7} {E:List Bool} {g:List Thk.ze} {k:Nat} (h:k<g.length):Kh names E g k=(Thk.ZC (Eb names E) g[k].choice).map (idx0 names):=by
 unfold Kh;rw[List.getElem?_eq_getElem h];rfl
structure Ju (w:World) (B gb:Nat) (vx vr:Value) (ps:List (Thk.RE × Value × Value)) (rs:List (Thk.z7 × Nat)) (wr:World):Prop where
 res:wr.heap[w.heap.size]? = some JZ
 mem:GM wr B gb vx vr (ps.map (ZY (zj rs))) rs
 below:Below w.heap.size w wr
theorem Ju.go {w:World} {B gb:Nat} {vx vr:Value} {ps:List (Thk.RE × Value × Value)} {rs:List (Thk.z7 × Nat)} {wr w2:World} (h:Ju w B gb vx vr ps rs wr) (hb:Below wr.heap.size wr w2):Ju w B gb vx vr ps rs w2:=
 ⟨by rw[hb.block _ (za h.res)];exact h.res,h.mem.below hb,h.below.trans (hb.mono h.below.size)⟩
theorem Ju.drewN {w:World} {B gb:Nat} {vx vr:Value} {ps:List (Thk.RE × Value × Value)} {rs:List (Thk.z7 × Nat)} {wr:World} (h:Ju w B gb vx vr ps rs wr) (q:Nat):Ju w B gb vx vr ps rs (wr.drewN q):=h.go (below_drewN (Below.refl _ _) q)
theorem zco (s:ByteArray) (w:World) (hs:s.size≤maxLen) (r:Except (Nat × Nat) (List Thk.ze)) (hP:Zs s.data.toList r) :
  Calls Tryz.prog 39 #[.string s] w fun e w'=>zdu s.data.toList w e w':=by
 have hrd:=zi7 s (w.alloc JZ) hs
 have hsl:s.data.toList.length=s.size:=rfl
 go_enter Tryz.func39,Tryz.ntmps39
 go_wp2_with fail
 refine hrd.mono ?_
 rintro e w1 ⟨hb1,hE⟩
 have hz1:=hb1.size
 simp at hz1
 have hr1:w1.heap[w.heap.size]? = some JZ:=by rw[hb1.block _ (by simp)];exact zk _ _
 have HB1:Hid (Below w.heap.size w w1):=(zc _ _).trans (hb1.mono (by simp))
 clear hrd
 cases r with
 | error x=>
  have hx0:=zce hP
  have hE2:e = .returned (.tuple #[ZP,.int .i64 x.1,.int .i64 x.2]):=by
   rcases zcd hP with ⟨h1,rfl⟩ | ⟨h1,h2⟩
   ·rw[if_pos (by omega)] at hE;exact hE
   ·rw[if_neg (by omega),h2] at hE;exact hE
  subst hE2
  obtain⟨er,p⟩:=x
  simp only[] at hx0
  have hx1:¬ (er:Int)=0:=by omega
  have rq:=z8 hr1
  have rf:=zi hr1
  have hlt1:w.heap.size<w1.heap.size:=by omega
  have HP:=z6 hP
  clear hE hb1 hP hr1
  simp only[ZP]
  go_wp2_with fail
  refine bodyPost_ret (v:=.tuple #[.agg #[.slice none 0 0,.slice none 0 0],.slice none 0 0,.int .i64 er,.int .i64 p]) (by simp[results,Tryz.results39,go_sem,rq,hlt1];done) rfl ⟨?_,.error (er,p),.text HP.out,hx0,_,_,_,_,_,_,rfl⟩
  exact ((HB1.out.setCell (p:=⟨w.heap.size,0,none⟩) (Nat.le_refl _) _).setCell (p:=⟨w.heap.size,1,none⟩) (Nat.le_refl _) _).alloc (by simp;omega) _
 | ok g=>
  obtain⟨hl,S',hrun,hOK⟩:=zcf hP
  rw[if_neg (by omega),hrun] at hE
  obtain⟨M,lab,rfl,hMem,hst⟩:=hE
  obtain⟨xa,xc,hvx⟩:=zl hMem.ex
  obtain⟨ra,rc,hvr⟩:=zl hMem.ru
  have hxl:S'.xs=M.xs.map (·.1):=by rw[← hst];rfl
  have hrsl:S'.rs=M.rs:=by rw[← hst];rfl
  obtain⟨ps,hps⟩:∃ ps,ps=M.xs:=⟨_,rfl⟩
  obtain⟨rs,hrs⟩:∃ rs,rs=M.rs:=⟨_,rfl⟩
  rw[← hps] at hxl
  rw[← hrs] at hrsl
  have hden:Thk.zV (zK ps) rs g:=by have:=hOK.den;rw[hxl,hrsl] at this;exact this
  have hfits:K5 ps rs:=by
   refine⟨fun p hp=>?_,fun x hx=>?_⟩
   ·have:=hOK.wx.ex p.1 (by rw[hxl];exact List.mem_map_of_mem hp)
    rw[hxl,List.length_map] at this;exact this
   ·have:=hOK.bd x (by rw[hrsl];exact hx)
    rw[hxl,List.length_map] at this;exact this
  have hple:ps.length≤10000:=by have:=hOK.len;rw[hxl,List.length_map] at this;exact this
  have hgl:rs.length=g.length:=(zV.get rs g hden).1
  have hrle:rs.length≤20:=by rw[hgl];exact hOK.le
  have hrpos : 0<rs.length:=by rw[hgl];exact List.length_pos_iff.2 hOK.ne
  have hppos : 0<ps.length:=by
   have:=hfits.ru rs[0] (List.getElem_mem hrpos);omega
  have hnames:zj rs=zg g:=zV.names rs g hden
  have hnc:=hOK.nc
  have hG2:GM (w1.alloc (YB (.slice xa ps.length xc) (.slice ra rs.length rc))) (w.heap.size+1) w1.heap.size (.slice xa ps.length xc) (.slice ra rs.length rc) ps rs:=by
   have hex:=hMem.ex
   have hru:=hMem.ru
   rw[hvx] at hex
   rw[hvr] at hru
   rw[hps,hrs]
   exact⟨zk _ _,(Zn hex (by simp)).alloc _,(Zn hru (by simp)).alloc _,fun p hp=>(Zn (hMem.items p hp) (by simp)).alloc _,fun p hp=>(Zn (hMem.parts p hp).1 (by simp)).alloc _⟩
  have hnm:=zhY _ _ _ _ _ ps rs hG2 hppos hrpos hrle (by omega)
  rw[hvx,hvr,← hps,← hrs]
  have hr2:(w1.alloc (YB (.slice xa ps.length xc) (.slice ra rs.length rc))).heap[w.heap.size]? = some JZ:=by rw[zm _ _ (by omega)];exact hr1
  have HB2:Hid (Below w.heap.size w (w1.alloc (YB (.slice xa ps.length xc) (.slice ra rs.length rc)))):=HB1.out.alloc (by omega) _
  have HR2:=z6 hr2
  have HP:=z6 hP
  have HDEN:=z6 hden
  have HFITS:=z6 hfits
  have HNAMES:=z6 hnames
  have HNC:=z6 hnc
  have HGL:=z6 hgl
  clear hP hMem hst hOK hrun hvx hvr hxl hrsl hps hrs hden hfits hnames hnc hG2 hr1 hr2 hb1 HB1 hgl hl
  go_wp2_with fail
  refine hnm.mono ?_
  rintro _ w3 ⟨rfl,hG3,hb3⟩
  have HL3:Hid (Ju w (w.heap.size+1) w1.heap.size (.slice xa ps.length xc) (.slice ra rs.length rc) ps rs w3):=by
   refine⟨by rw[hb3.block _ (by omega)];exact HR2.out,hG3,HB2.out.trans (hb3.mono (by omega))⟩
  clear hnm hG3 hb3
  obtain⟨rg,rfl⟩:∃ rg,ra=some ⟨rg,0,none⟩:=by
   obtain⟨rg,rc',h1,_⟩:=HL3.out.mem.ruAt hrpos
   cases h1;exact⟨rg,rfl⟩
  go_wp2_with fail
  go_loopg [9] rs.length (fun m v wr=>∃ i:Nat,m=rs.length - i∧v = .int .i64 i∧i≤rs.length∧Hid (Ju w (w.heap.size+1) w1.heap.size (.slice xa ps.length xc) (.slice (some ⟨rg,0,none⟩) rs.length rc) ps rs wr)∧Hid (∀ t,t<i→Jp (zg g) t=false))
  case atStart=>exact⟨0,by omega,rfl,by omega,HL3,fun t ht=>by omega⟩
  case round=>
   obtain⟨i,rfl,rfl,hi,HI,HT⟩:=hrel
   have q:=z8 HI.out.mem.blk
   have hgbl:=HI.out.mem.lt
   by_cases hlt:i<rs.length
   ·have hlt':(i:Int)<rs.length:=by omega
    clear HL3 HB2 HR2
    go_wp2_with fail
    go_loopg [10] i (fun m v wr=>∃ k:Nat,m=i - k∧v = .int .i64 k∧k≤i∧Hid (Ju w (w.heap.size+1) w1.heap.size (.slice xa ps.length xc) (.slice (some ⟨rg,0,none⟩) rs.length rc) ps rs wr)∧Hid (∀ t (h:t<rs.length),t<k→rs[t].1≠rs[i].1))
    case atStart=>exact⟨0,by omega,rfl,by omega,HI,fun t _ ht=>by omega⟩
    case round=>
     obtain⟨k,rfl,rfl,hk,HI2,HT2⟩:=hrel
     have q2:=z8 HI2.out.mem.blk
     have hni:(zg g).length=rs.length:=by rw[← HNAMES.out];simp
     by_cases hlk:k<i
     ·have hlk':(k:Int)<i:=by omega
      have hkr:(k:Int)<rs.length:=by omega
      have hk2:k<rs.length:=by omega
      obtain⟨d0,_⟩:=HI2.out.mem.ruCells k hk2
      obtain⟨d1,_⟩:=HI2.out.mem.ruCells i hlt
      by_cases hnm:rs[k].1=rs[i].1
      ·have hnb:(rs[k].1 == rs[i].1)=true:=by simpa using hnm
       have htw:Jp (zg g) i=true:=by
        refine (zdh (by omega)).2 ⟨k,hlk,?_⟩
        simp only[← HNAMES.out,List.getElem_map];exact hnm
       have rq:=z8 HI2.out.res
       have rf:=zi HI2.out.res
       have rl:=za HI2.out.res
       have HPL:Hid (Qh g (.error (5,i))):=.twice ⟨by omega,htw,HT.out⟩
       clear htw hnm
       go_wp2_with fail
       go_quiet (fail)
       go_wp2_with fail
       refine bodyPost_ret (v:=.tuple #[.agg #[.slice xa ps.length xc,.slice (some ⟨rg,0,none⟩) rs.length rc],.slice none 0 0,.int .i64 5,.int .i64 i]) (by simp[results,Tryz.results39,go_sem,rq,rl];done) rfl ⟨?_,.error (5,i),.rules HP.out HPL.out,by simp,_,_,_,_,_,_,rfl⟩
       exact ((below_drewN HI2.out.below _).setCell (p:=⟨w.heap.size,0,none⟩) (Nat.le_refl _) _).setCell (p:=⟨w.heap.size,1,none⟩) (Nat.le_refl _) _
      ·have hnb:(rs[k].1 == rs[i].1)=false:=by simpa using hnm
       have HN2:Hid (∀ t (h:t<rs.length),t<k+1→rs[t].1≠rs[i].1):=by
        intro t h ht
        by_cases hte:t=k
        ·subst hte;exact hnm
        ·exact HT2.out t h (by omega)
       clear hnm
       go_wp2_with fail
       go_quiet (fail)
       go_wp2_with fail
       go_roundg (i - (k+1))
       case measure=>omega
       case rel=>exact⟨k+1,rfl,by go_num,by omega,HI2.out.drewN _,HN2⟩
     ·have hlk':¬ (k:Int)<i:=by omega
      have HNT:Hid (∀ t,t<i+1→Jp (zg g) t=false):=by
       intro t ht
       by_cases hte:t=i
       ·subst hte
        cases htw:Jp (zg g) t with
        | false=>rfl
        | true=>
         obtain⟨x,hx,h2⟩:=(zdh (by omega)).1 htw
         simp only[← HNAMES.out,List.getElem_map] at h2
         exact absurd h2 (HT2.out x (by omega) (by omega))
       ·exact HT.out t (by omega)
      go_wp2_with fail
      go_roundg (rs.length - (i+1))
      case measure=>omega
      case rel=>exact⟨i+1,rfl,by go_num,by omega,HI2,HNT⟩
   ·have hlt':¬ (i:Int)<rs.length:=by omega
    have HFT:Hid (JG (zg g) none):=by
     intro t ht
     refine HT.out t ?_
     have:(zg g).length=rs.length:=by rw[← HNAMES.out];simp
     omega
    have hem:=zhP wr _ _ _ _ ps rs g HI.out.mem HFITS.out hppos hrpos (by omega) HDEN.out
    have HRES:=z6 HI.out.res
    have HBEL:=z6 HI.out.below
    have hrl:=za HI.out.res
    clear HI HL3 HB2 HR2 HT
    go_wp2_with fail
    refine hem.mono ?_
    rintro _ w5 ⟨rfl,l,hEm,hClo⟩
    obtain⟨lb,hlbe⟩:∃ lb,lb=wr.heap.size:=⟨_,rfl⟩
    rw[← hlbe] at hEm ⊢
    have hlbw:w.heap.size<lb:=by rw[hlbe];exact hrl
    have hres5:w5.heap[w.heap.size]? = some JZ:=by rw[hEm.below.block _ hrl];exact HRES.out
    have HL5:Hid (Ju w (w.heap.size+1) w1.heap.size (.slice xa ps.length xc) (.slice (some ⟨rg,0,none⟩) rs.length rc) ps rs w5):=⟨hres5,hEm.mem,HBEL.out.trans (hEm.below.mono HBEL.out.size)⟩
    have HROW:=z6 hEm.row
    have HLEN:=z6 hEm.len
    have HFND:=z6 hEm.fnd
    have HCLO:=z6 hClo
    have HWU:=fun u=>z6 (ziB (w.heap.size+1) w1.heap.size lb (.slice xa ps.length xc) (.slice (some ⟨rg,0,none⟩) rs.length rc) ps rs l u HFITS.out hEm.len)
    clear hem hEm hClo hres5 HRES HBEL hrl hlbe
    go_wp2_with fail
    go_loopg [12] rs.length (fun m v wr=>∃ i:Nat,m=rs.length - i∧v = .int .i64 i∧i≤rs.length∧Hid (Ju w (w.heap.size+1) w1.heap.size (.slice xa ps.length xc) (.slice (some ⟨rg,0,none⟩) rs.length rc) ps rs wr∧wr.heap[lb]? = some (zH l))∧Hid (∀ t (h:t<g.length),t<i→Thk.zx (zv (zj rs)) g[t].choice=false))
    case atStart=>exact⟨0,by omega,rfl,by omega,⟨HL5.out,HROW.out⟩,fun t _ ht=>by omega⟩
    case round=>
     obtain⟨i,rfl,rfl,hi,HI,HU⟩:=hrel
     have q:=z8 HI.out.1.mem.blk
     have hgbl:=HI.out.1.mem.lt
     clear HL5 HROW
     by_cases hlt:i<rs.length
     ·have hlt':(i:Int)<rs.length:=by omega
      have hig:i<g.length:=by have:=HGL.out;omega
      obtain⟨_,d1⟩:=HI.out.1.mem.ruCells i hlt
      have hcall:Calls Tryz.prog 67 #[.pointer (some ⟨w1.heap.size,0,none⟩),.int .i64 rs[i].2,.slice (some ⟨lb,0,none⟩) ps.length ps.length,.bool true] wr fun e w'=>e = .returned (.bool (Thk.zx (zv (zj rs)) g[i].choice))∧Below wr.heap.size wr w':=by
       have:=wiP (E:=[]) (fun h=>by cases h) (HWU true).out (.group g[i].choice) (Vv HDEN.out hlt hig) (fun h=>by cases h)
       simp only[J9,Bool.false_or,Thk.Zi,HT,if_true] at this
       exact this wr HI.out.1.mem HI.out.2
      cases hb:Thk.zx (zv (zj rs)) g[i].choice with
      | true=>
       rw[hb] at hcall
       have HPL:Hid (Qh g (.error (6,i))):=.unknown HFT.out ⟨hig,by rw[← HNAMES.out];exact hb,fun t ht h2=>by rw[← HNAMES.out];exact HU.out t ht h2⟩
       clear hb
       go_wp2_with fail
       refine hcall.mono ?_
       rintro _ w6 ⟨rfl,hb6⟩
       have h6:=HI.out.1.go hb6
       have rq:=z8 h6.res
       have rf:=zi h6.res
       have rl:=za h6.res
       have gq:=z8 h6.mem.blk
       have ggl:=h6.mem.lt
       have H6:=z6 h6
       clear hcall hb6 h6
       go_wp2_with fail
       refine bodyPost_ret (v:=.tuple #[.agg #[.slice xa ps.length xc,.slice (some ⟨rg,0,none⟩) rs.length rc],.slice none 0 0,.int .i64 6,.int .i64 i]) (by simp[results,Tryz.results39,go_sem,rq,rl];done) rfl ⟨?_,.error (6,i),.rules HP.out HPL.out,by simp,_,_,_,_,_,_,rfl⟩
       exact (H6.out.below.setCell (p:=⟨w.heap.size,0,none⟩) (Nat.le_refl _) _).setCell (p:=⟨w.heap.size,1,none⟩) (Nat.le_refl _) _
      | false=>
       rw[hb] at hcall
       have HU2:Hid (∀ t (h:t<g.length),t<i+1→Thk.zx (zv (zj rs)) g[t].choice=false):=by
        intro t h ht
        by_cases hte:t=i
        ·subst hte;exact hb
        ·exact HU.out t h (by omega)
       clear hb
       go_wp2_with fail
       refine hcall.mono ?_
       rintro _ w6 ⟨rfl,hb6⟩
       have H6:=z6 (And.intro (HI.out.1.go hb6) ((hb6.block lb (za HI.out.2)).trans HI.out.2))
       clear hcall hb6
       go_wp2_with fail
       go_roundg (rs.length - (i+1))
       case measure=>omega
       case rel=>exact⟨i+1,rfl,by go_num,by omega,H6,HU2⟩
     ·have hlt':¬ (i:Int)<rs.length:=by omega
      have hgi:g.length≤i:=by have:=HGL.out;omega
      have HUN:Hid (∀ t (h:t<g.length),Thk.zx (zv (zj rs)) g[t].choice=false):=fun t h=>HU.out t h (by omega)
      obtain⟨hCl,hLe,hLn⟩:=zfK HDEN.out HCLO.out HFND.out HUN.out
      obtain⟨E,hE⟩:∃ E,E=Eof (Zp rs) l:=⟨_,rfl⟩
      have HE:=z6 hE
      have hLP:=zg0 HCLO.out HFND.out hCl
      rw[← hE] at hCl hLe hLn hLP
      have HLP:=z6 hLP
      have HCL:=z6 hCl
      have HLE:=z6 hLe
      have HLN:=z6 hLn
      clear hCl hLe hLn hLP hE HU hgi
      go_wp2_with fail
      go_loopg [14] rs.length (fun m v wr=>∃ i:Nat,m=rs.length - i∧v = .int .i64 i∧i≤rs.length∧Hid (Ju w (w.heap.size+1) w1.heap.size (.slice xa ps.length xc) (.slice (some ⟨rg,0,none⟩) rs.length rc) ps rs wr∧wr.heap[lb]? = some (zH l))∧Hid (∀ t (h:t<g.length),t<i→Thk.zx (zJ (Eb (zj rs) E)) g[t].choice=false))
      case atStart=>exact⟨0,by omega,rfl,by omega,HI,fun t _ ht=>by omega⟩
      case round=>
       obtain⟨i2,rfl,rfl,hi2,HI2,HV⟩:=hrel
       have q2:=z8 HI2.out.1.mem.blk
       have hgbl2:=HI2.out.1.mem.lt
       clear HI q hgbl
       by_cases hlt2:i2<rs.length
       ·have hlt2':(i2:Int)<rs.length:=by omega
        have hig:i2<g.length:=by have:=HGL.out;omega
        obtain⟨_,d1⟩:=HI2.out.1.mem.ruCells i2 hlt2
        have hcall:Calls Tryz.prog 67 #[.pointer (some ⟨w1.heap.size,0,none⟩),.int .i64 rs[i2].2,.slice (some ⟨lb,0,none⟩) ps.length ps.length,.bool false] wr fun e w'=>e = .returned (.bool (Thk.zx (zJ (Eb (zj rs) E)) g[i2].choice))∧Below wr.heap.size wr w':=by
         have:=wiP (fun _=>HLP.out) (HWU false).out (.group g[i2].choice) (Vv HDEN.out hlt2 hig) (fun _=>by simp only[Thk.Zi];exact HUN.out i2 hig)
         simp only[J9,Bool.false_or,Thk.Zi,HT,Bool.false_eq_true,if_false] at this
         exact this wr HI2.out.1.mem HI2.out.2
        cases hb:Thk.zx (zJ (Eb (zj rs) E)) g[i2].choice with
        | true=>
         rw[hb] at hcall
         have HPL:Hid (Qh g (.error (7,i2))):=by
          have h1:Qp g (Thk.zx (zv (zg g))) none:=fun t ht=>by rw[← HNAMES.out];exact HUN.out t ht
          have h2:=HCL.out
          have h3:=HLE.out
          rw[show rs.map (·.1)=zg g from HNAMES.out] at h2 h3
          exact .loop HFT.out h1 HLN.out h2 h3 ⟨hig,by rw[← HNAMES.out];exact hb,fun t ht h4=>by rw[← HNAMES.out];exact HV.out t ht h4⟩
         clear hb
         go_wp2_with fail
         refine hcall.mono ?_
         rintro _ w6 ⟨rfl,hb6⟩
         have h6:=HI2.out.1.go hb6
         have rq:=z8 h6.res
         have rf:=zi h6.res
         have rl:=za h6.res
         have gq:=z8 h6.mem.blk
         have ggl:=h6.mem.lt
         have H6:=z6 h6
         clear hcall hb6 h6
         go_wp2_with fail
         refine bodyPost_ret (v:=.tuple #[.agg #[.slice xa ps.length xc,.slice (some ⟨rg,0,none⟩) rs.length rc],.slice none 0 0,.int .i64 7,.int .i64 i2]) (by simp[results,Tryz.results39,go_sem,rq,rl];done) rfl ⟨?_,.error (7,i2),.rules HP.out HPL.out,by simp,_,_,_,_,_,_,rfl⟩
         exact (H6.out.below.setCell (p:=⟨w.heap.size,0,none⟩) (Nat.le_refl _) _).setCell (p:=⟨w.heap.size,1,none⟩) (Nat.le_refl _) _
        | false=>
         rw[hb] at hcall
         have HV2:Hid (∀ t (h:t<g.length),t<i2+1→Thk.zx (zJ (Eb (zj rs) E)) g[t].choice=false):=by
          intro t h ht
          by_cases hte:t=i2
          ·subst hte;exact hb
          ·exact HV.out t h (by omega)
         clear hb
         go_wp2_with fail
         refine hcall.mono ?_
         rintro _ w6 ⟨rfl,hb6⟩
         have H6:=z6 (And.intro (HI2.out.1.go hb6) ((hb6.block lb (za HI2.out.2)).trans HI2.out.2))
         clear hcall hb6
         go_wp2_with fail
         go_roundg (rs.length - (i2+1))
         case measure=>omega
         case rel=>exact⟨i2+1,rfl,by go_num,by omega,H6,HV2⟩
       ·have hlt2':¬ (i2:Int)<rs.length:=by omega
        have HVN:Hid (∀ t (h:t<g.length),Thk.zx (zJ (Eb (zj rs) E)) g[t].choice=false):=fun t h=>HV.out t h (by have:=HGL.out;omega)
        have HSF:=z6 (zhU (w.heap.size+1) w1.heap.size lb (.slice xa ps.length xc) (.slice (some ⟨rg,0,none⟩) rs.length rc) ps rs l HFITS.out HLEN.out)
        have HRETF:Hid (∀ k (hk:k<rs.length),qB (w.heap.size+1) w1.heap.size lb (.slice xa ps.length xc) (.slice (some ⟨rg,0,none⟩) rs.length rc) ps rs l rs[k].2 (Kh (zj rs) E g k)):=by
         intro k hk
         have hkg:k<g.length:=by have:=HGL.out;omega
         rw[zae hkg]
         have:=fiP HLP.out HSF.out (.group g[k].choice) (Vv HDEN.out hk hkg) (by simp only[Thk.Zi];exact HUN.out k hkg) (by intro b hb;cases hb) (by simp only[Thk.ncP];have:=HNC.out g[k] (List.getElem_mem hkg);omega)
         simp only[Thk.Zy] at this
         exact this
        have hnpos : 0<(zj rs).length:=by simpa using hrpos
        have HMM:Hid (∀ k j,k<rs.length→(Za (zj rs) E g k j=true↔j ∈ Kh (zj rs) E g k)):=by
         intro k j hk
         have hkg:k<g.length:=by have:=HGL.out;omega
         rw[zae hkg];exact KJ hkg hnpos
        have HNN:Hid (∀ k j,k<rs.length→j ∈ Kh (zj rs) E g k→j<rs.length):=by
         intro k j _ hj
         obtain⟨b,_,rfl⟩:=List.mem_map.1 hj
         have:=YU b hnpos
         simpa using this
        have HBB:Hid (∀ k,k<rs.length→(Kh (zj rs) E g k).length≤3000):=by
         intro k hk
         have hkg:k<g.length:=by have:=HGL.out;omega
         rw[zae hkg,List.length_map]
         have h1:=Thk.UJ (Eb (zj rs) E) g[k].choice
         have h2:=HNC.out g[k] (List.getElem_mem hkg)
         omega
        clear HV HWU
        go_wp2_with fail
        go_loopg [16] rs.length (fun m v wr=>∃ i:Nat,m=rs.length - i∧v = .int .i64 i∧i≤rs.length∧Hid (Ju w (w.heap.size+1) w1.heap.size (.slice xa ps.length xc) (.slice (some ⟨rg,0,none⟩) rs.length rc) ps rs wr∧wr.heap[lb]? = some (zH l))∧Hid (∀ t,t<i→Wm (Za (zj rs) E g) rs.length t t=false))
        case atStart=>exact⟨0,by omega,rfl,by omega,HI2,fun t ht=>by omega⟩
        case round=>
         obtain⟨i3,rfl,rfl,hi3,HI3,HX⟩:=hrel
         have q3:=z8 HI3.out.1.mem.blk
         have hgbl3:=HI3.out.1.mem.lt
         clear HI2 q2 hgbl2
         by_cases hlt3:i3<rs.length
         ·have hlt3':(i3:Int)<rs.length:=by omega
          have hig:i3<g.length:=by have:=HGL.out;omega
          have hcall:=zhV wr _ _ lb _ _ ps rs l (Za (zj rs) E g) (Kh (zj rs) E g) i3 HI3.out.1.mem HI3.out.2 hrle hlt3 HRETF.out HMM.out HNN.out HBB.out
          cases hb:Wm (Za (zj rs) E g) rs.length i3 i3 with
          | true=>
           rw[hb] at hcall
           have HPL:Hid (Qh g (.error (8,i3))):=by
            have h1:Qp g (Thk.zx (zv (zg g))) none:=fun t ht=>by rw[← HNAMES.out];exact HUN.out t ht
            have h2:=HCL.out
            have h3:=HLE.out
            rw[show rs.map (·.1)=zg g from HNAMES.out] at h2 h3
            refine .left HFT.out h1 HLN.out h2 h3 (fun t ht=>by rw[← HNAMES.out];exact HVN.out t ht) ⟨hig,?_,fun t ht=>?_⟩
            ·rw[← HNAMES.out,← HGL.out];exact hb
            ·rw[← HNAMES.out,← HGL.out];exact HX.out t ht
           clear hb
           go_wp2_with fail
           refine hcall.mono ?_
           rintro _ w6 ⟨rfl,hb6⟩
           have h6:=HI3.out.1.go hb6
           have rq:=z8 h6.res
           have rf:=zi h6.res
           have rl:=za h6.res
           have gq:=z8 h6.mem.blk
           have ggl:=h6.mem.lt
           have H6:=z6 h6
           clear hcall hb6 h6
           go_wp2_with fail
           refine bodyPost_ret (v:=.tuple #[.agg #[.slice xa ps.length xc,.slice (some ⟨rg,0,none⟩) rs.length rc],.slice none 0 0,.int .i64 8,.int .i64 i3]) (by simp[results,Tryz.results39,go_sem,rq,rl];done) rfl ⟨?_,.error (8,i3),.rules HP.out HPL.out,by simp,_,_,_,_,_,_,rfl⟩
           exact (H6.out.below.setCell (p:=⟨w.heap.size,0,none⟩) (Nat.le_refl _) _).setCell (p:=⟨w.heap.size,1,none⟩) (Nat.le_refl _) _
          | false=>
           rw[hb] at hcall
           have HX2:Hid (∀ t,t<i3+1→Wm (Za (zj rs) E g) rs.length t t=false):=by
            intro t ht
            by_cases hte:t=i3
            ·subst hte;exact hb
            ·exact HX.out t (by omega)
           clear hb
           go_wp2_with fail
           refine hcall.mono ?_
           rintro _ w6 ⟨rfl,hb6⟩
           have H6:=z6 (And.intro (HI3.out.1.go hb6) ((hb6.block lb (za HI3.out.2)).trans HI3.out.2))
           clear hcall hb6
           go_wp2_with fail
           go_roundg (rs.length - (i3+1))
           case measure=>omega
           case rel=>exact⟨i3+1,rfl,by go_num,by omega,H6,HX2⟩
         ·have hlt3':¬ (i3:Int)<rs.length:=by omega
          have HPL:Hid (Qh g (.ok E)):=by
           have h1:Qp g (Thk.zx (zv (zg g))) none:=fun t ht=>by rw[← HNAMES.out];exact HUN.out t ht
           have h2:=HCL.out
           have h3:=HLE.out
           rw[show rs.map (·.1)=zg g from HNAMES.out] at h2 h3
           refine .ok HFT.out h1 HLN.out h2 h3 (fun t ht=>by rw[← HNAMES.out];exact HVN.out t ht) (fun t ht=>?_)
           rw[← HNAMES.out,← HGL.out];exact HX.out t (by have:=HGL.out;omega)
          have rq:=z8 HI3.out.1.res
          have rf:=zi HI3.out.1.res
          have rl:=za HI3.out.1.res
          clear HRETF HMM HNN HBB HSF
          go_wp2_with fail
          refine bodyPost_ret (v:=.tuple #[.agg #[.slice xa ps.length xc,.slice (some ⟨rg,0,none⟩) rs.length rc],.slice (some ⟨lb,0,none⟩) ps.length ps.length,.int .i64 0,.int .i64 0]) (by simp[results,Tryz.results39,go_sem,rq,rl];done) rfl ⟨?_,.ok (g,E),.ok HP.out HPL.out,?_⟩
          ·exact (HI3.out.1.below.setCell (p:=⟨w.heap.size,0,none⟩) (Nat.le_refl _) _).setCell (p:=⟨w.heap.size,1,none⟩) (Nat.le_refl _) _
          ·refine⟨_,_,w1.heap.size,lb,ps,rs,l,rfl,?_,?_,HLEN.out,HFITS.out,HDEN.out,HLP.out,HE.out,hrle,hrpos,hple⟩
           ·exact ((HI3.out.1.mem.setLow (by omega) (by omega) _ _).setLow (by omega) (by omega) _ _).mono (by omega)
           ·rw[Below.heap_setCell _ _ _ _ (by show lb≠w.heap.size;omega),Below.heap_setCell _ _ _ _ (by show lb≠w.heap.size;omega)];exact HI3.out.2
structure BgOk (w w':World) (g:List Thk.ze) (s:ByteArray) (tb:Nat) (n:Option Nat):Prop where
 ex:∃ (w0:World) (B gb eb ec:Nat) (vx vr:Value) (ps:List (Thk.RE × Value × Value)) (rs:List (Thk.z7 × Nat)) (rbs:List Nat),w.heap.size≤w0.heap.size∧Env w0 B gb vx vr ps rs s rbs∧Stt w0 tb eb ec vx vr ps rs s rbs w'∧Thk.zV (zK ps) rs g
 val:∀ o,(∀ h : 0<g.length,Ev g s.data.toList (.C g[0].choice) 0 o)→n=fin o
def zdp (t:List UInt8) (s:ByteArray) (w:World) (e:Ending) (w':World):Prop:=
 Below w.heap.size w w'∧∃ res,Zo t res∧match res with
  | .error (er,_)=>er≠0∧e = .returned (.tuple #[.pointer none,.int .i64 0,.int .i64 er])
  | .ok (g,_)=>if 200<s.size then e = .returned (.tuple #[.pointer none,.int .i64 0,.int .i64 1]) else ∃ tb n,e = .returned (.tuple #[.pointer (some ⟨tb,0,none⟩),.int .i64 (zF n),.int .i64 0])∧BgOk w w' g s tb n
theorem KpM.below {rbs:List Nat} {B:Nat} {w w':World} (h:KpM rbs w.heap.size w w') (hr:∀ b ∈ rbs,B≤b) (hB:B≤w.heap.size):Below B w w':=⟨h.os,h.tape,h.output,h.size,fun k hk=>h.block k (by omega) (fun hb=>by have:=hr k hb;omega)⟩
theorem zca (t s:ByteArray) (w:World) (hs:t.size≤maxLen) (hs2:s.size≤maxLen) (r:Except (Nat × Nat) (List Thk.ze)) (hP:Zs t.data.toList r) :
  Calls Tryz.prog 75 #[.string t,.string s] w fun e w'=>zdp t.data.toList s w e w':=by
 have hld:=zco t w hs r hP
 unfold maxLen at hs2
 clear hP
 go_enter Tryz.func75,Tryz.ntmps75
 go_wp2_with fail
 refine hld.mono ?_
 rintro e w1 ⟨hb,res,hP,hE⟩
 have HB:=z6 hb
 have HP:=z6 hP
 have hz:=hb.size
 clear hld hb hP
 cases res with
 | error x=>
  obtain⟨er,p⟩:=x
  obtain⟨h0,xa,xn,xc,ra,rn,rc,rfl⟩:=hE
  have h1:¬ (er:Int)=0:=by omega
  go_wp2_with fail
  go_ret3
  exact⟨HB.out.alloc hz _,.error (er,p),HP.out,h0,rfl⟩
 | ok x=>
  obtain⟨g,E⟩:=x
  obtain⟨vx,vr,gb,lb,ps,rs,l,rfl,hok⟩:=hE
  obtain⟨xa,xc,hvx⟩:=zl hok.mem.ex
  rw[List.length_map] at hvx
  obtain⟨rg,rc,hvr,_,hrgl⟩:=hok.mem.ruAt hok.rpos
  subst hvx
  subst hvr
  by_cases hlong : 200<s.size
  ·have hlong':(200:Int)<s.size:=by omega
   clear hok
   go_wp2_with fail
   go_ret3
   refine⟨HB.out.alloc hz _,.ok (g,E),HP.out,?_⟩
   simp only[]
   rw[if_pos hlong]
   rfl
  ·have hlong':¬ (200:Int)<s.size:=by omega
   have hple:=hok.ple
   have hrle:=hok.rle
   have hrpos:=hok.rpos
   have hppos : 0<ps.length:=by
    have:=hok.fits.ru rs[0] (List.getElem_mem hrpos)
    omega
   obtain⟨W,hW⟩:∃ W,W=w1.alloc (YB (.slice xa ps.length xc) (.slice (some ⟨rg,0,none⟩) rs.length rc)):=⟨_,rfl⟩
   have hWb:Below w1.heap.size w1 W:=by rw[hW];exact zc _ _
   have hWg:W.heap[w1.heap.size]? = some (YB (.slice xa ps.length xc) (.slice (some ⟨rg,0,none⟩) rs.length rc)):=by rw[hW];exact zk _ _
   have hWs:W.heap.size=w1.heap.size+1:=by rw[hW];simp
   have hGW:GM W w.heap.size w1.heap.size (.slice xa ps.length xc) (.slice (some ⟨rg,0,none⟩) rs.length rc) (ps.map (ZY (zj rs))) rs:=by
    have:=hok.mem.below hWb
    exact⟨hWg,this.ex,this.ru,this.items,this.parts⟩
   have hnt:=zgK W xa ps.length xc (.slice (some ⟨rg,0,none⟩) rs.length rc) (some ⟨rg,0,none⟩) rs.length rc rfl s (by omega) hple hppos
   have d1:=(hGW.ruCells 0 hrpos).2
   have hq1:W.cell? ⟨w1.heap.size,1,none⟩=some (.slice (some ⟨rg,0,none⟩) rs.length rc):=z8 hWg 1
   have hden:=hok.den
   have hgl : 0<g.length:=HP.out.ends.pos
   have hdb:=Vv hden hrpos hgl
   obtain⟨o,ho⟩:=qh (inp:=s.data.toList) HP.out.ends
   obtain⟨f,hf⟩:=(Ev.pgroup ho).sim hden _ hdb
   have HOK:=z6 hok
   have HGW:=z6 hGW
   have HNT:=z6 hnt
   have HF:=z6 hf
   have HDB:=z6 hdb
   have HWB:=z6 hWb
   have hrgl2:rg<W.heap.size:=by omega
   have HWS:=z6 hWs
   clear hok hWb hWg hGW hnt hden hdb hf ho hWs
   go_wp2_with fail
   rw[← hW]
   clear hW
   refine HNT.out.mono ?_
   rintro _ w2 ⟨eb,ec,rbs,hlen,rfl,hTr,hb2⟩
   have hEnv:Env W w.heap.size w1.heap.size (.slice xa ps.length xc) (.slice (some ⟨rg,0,none⟩) rs.length rc) ps rs s rbs:=⟨HGW.out,HOK.out.fits,hrpos,hrle,hple,by omega,hlen⟩
   have hSt:Stt W (W.heap.size+1) eb ec (.slice xa ps.length xc) (.slice (some ⟨rg,0,none⟩) rs.length rc) ps rs s rbs w2:=⟨fun _ _=>-2,hTr,fun i k hk=>.inl rfl⟩
   have htr:=zaC hEnv f w2 rs[0].2 0 (fin o) hSt (by omega) HF.out
   have hq2:w2.cell? ⟨w1.heap.size,1,none⟩=some (.slice (some ⟨rg,0,none⟩) rs.length rc):=by rw[hb2.cell (p:=⟨w1.heap.size,1,none⟩) (by show w1.heap.size<_;have:=HWS.out;omega)];exact hq1
   have d2:w2.cell? ⟨rg,1,none⟩=some (.int .i64 rs[0].2):=by rw[hb2.cell (p:=⟨rg,1,none⟩) hrgl2];simpa using d1
   have hz2:=hb2.size
   have hrp':(0:Int)<rs.length:=by omega
   have HRG:=z6 hTr.rge
   have HEN:=z6 hEnv
   have HB2:=z6 ((HB.out.trans (HWB.out.mono hz)).trans (hb2.mono (by have:=HWS.out;omega)))
   have HTR:=z6 htr
   generalize rs[0].2=b0 at *
   have HLEN:=z6 hlen
   clear hTr hSt hEnv htr d1 hq1 hb2 hlen
   go_wp2_with fail
   refine HTR.out.mono ?_
   rintro _ w3 ⟨rfl,hs3,hk3⟩
   have HS3:=z6 hs3
   have HB3:=z6 (HB2.out.trans (hk3.below (B:=w.heap.size) (fun b hb=>by have:=HRG.out b hb;have:=HWS.out;omega) HB2.out.size))
   clear hs3 hk3
   go_wp2_with fail
   go_ret3
   refine⟨HB3.out,.ok (g,E),HP.out,?_⟩
   simp only[]
   rw[if_neg hlong]
   refine⟨_,fin o,rfl,⟨W,_,_,eb,ec,_,_,ps,rs,rbs,by have:=HWS.out;omega,HEN.out,HS3.out,HOK.out.den⟩,?_⟩
   intro o' ho'
   obtain⟨f',hf'⟩:=(Ev.pgroup (ho' hgl)).sim HOK.out.den _ HDB.out
   exact zbw HF.out hf'
end Go.Proofs.YtiganlkabilblaaGreatDoor
