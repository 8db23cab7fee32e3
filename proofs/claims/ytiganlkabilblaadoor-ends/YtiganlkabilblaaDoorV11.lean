import Derived.Test.YtiganlkabilblaaDoorV00
import Derived.Test.YtiganlkabilblaaDoorV01
set_option linter.all false
set_option maxHeartbeats 64000000
set_option maxRecDepth 100000
namespace Go.Proofs.YtiganlkabilblaaDoor
open Go.RowKit
def YY (c:Int) (n:Nat):Nat:=(if c<0 then -(c+1) else c).toNat % n
theorem zh9 (c:Int) {n:Nat} (h : 0<n):YY c n<n:=Nat.mod_lt _ h
def i64 (c:Int):Prop:=-9223372036854775808≤c∧c<9223372036854775808
theorem zd7 (k:Int) (n:Nat) (hk : 0≤k):k.tmod n = ↑(k.toNat % n):=by
 obtain⟨m,rfl⟩:=Int.eq_ofNat_of_zero_le hk
 rw[← Int.ofNat_tmod];rfl
theorem zha (c:Int) (n:Nat) (h:c<0) : -(c+1).tmod n = ↑(YY c n):=by
 rw[← Int.neg_tmod,zd7 _ _ (by omega)];simp only[YY,h,if_true]
theorem zhb (c:Int) (n:Nat) (h : 0≤c):c % n = ↑(YY c n):=by
 rw[← Int.tmod_eq_emod_of_nonneg h,zd7 _ _ h];simp only[YY,show ¬ c<0 by omega,if_false]
theorem zk7 (c:Int) (n:Nat) (w:World) (hc:i64 c) (h0 : 0<n) (hn:n≤1099511627776) :
  Calls Tryd.prog 6 #[.int .i64 c,.int .i64 n] w fun e w'=>e = .returned (.int .i64 ↑(YY c n))∧w'=w:=by
 obtain⟨h1,h2⟩:=hc
 have hne:(n:Int)≠0:=by omega
 go_enter Tryd.func6,Tryd.ntmps6
 go_wp2
 all_goals go_ret
 ·exact⟨by rw[← zha c n (by assumption)];rfl,rfl⟩
 ·exact⟨by rw[← zhb c n (by assumption)];rfl,rfl⟩
theorem zl6 (w:World):Calls Tryd.prog 7 #[] w fun e w'=>e = .returned (.string ⟨#[32,110,117,109,32,60,45,32,91,48,45,57,93,32,110,117,109,63,32,119,111,114,100,32,60,45,32,39,97,39,32,119,111,114,100,32,39,98,39,32,47,32,39,99,39,32,39,97,39,63]⟩)∧w'=w:=by
 go_enter Tryd.func7,Tryd.ntmps7
 go_wp2
 go_ret
 exact⟨rfl,rfl⟩
abbrev bs (l:List UInt8):ByteArray:=⟨l.toArray⟩
theorem zf (a b:List UInt8):bs a++bs b=bs (a++b):=by
 apply ByteArray.ext;simp[bs]
theorem zjU (a:List UInt8):(bs a).size=a.length:=by simp[bs,ByteArray.size]
abbrev mdV (t:List UInt8) (e:Bool) (d:Nat):Value:=.agg #[.string (bs t),.bool e,.int .i64 d]
abbrev mdO (t:List UInt8) (e:Bool) (d:Nat):Obj:=.cells #[.string (bs t),.bool e,.int .i64 d] 24
def z5 (style:Int):List UInt8:=[[],[32],[10,9],[32,35,32,111,114,10]].getD (YY style 4) []
theorem zkU (t:List UInt8) (e:Bool) (d:Nat) (style:Int) (w:World) (hs:i64 style) (ht:t.length≤100000) (hd:d≤1000) :
  Calls Tryd.prog 13 #[mdV t e d,.int .i64 style] w fun e' w'=>e' = .returned (mdV (40::(z5 style++(t++(z5 style++[41])))) e (d+1))∧Below w.heap.size w w':=by
 have hp:=fun w=>zk7 style 4 w hs (by decide) (by decide)
 have h4:=zh9 style (n:=4) (by decide)
 have hk:YY style 4=0∨YY style 4=1∨YY style 4=2∨YY style 4=3:=by omega
 have hsz:=zjU t
 rcases hk with hk | hk | hk | hk
 ·rw[hk] at hp
  have hb:z5 style=[]:=by unfold z5;rw[hk];rfl
  rw[hb]
  clear hk h4 hb hs
  go_enter Tryd.func13,Tryd.ntmps13
  go_wp2_with (first | (go_at_call 6;refine (hp _).mono ?_;rintro e w' ⟨rfl,rfl⟩))
  refine bodyPost_ret (v:=mdV (40::([]++(t++([]++[41])))) e (d+1)) (by simp[results,Tryd.results13,go_sem,zf]) rfl ⟨rfl,?_⟩
  exact ((zc w _).alloc (by simp) _).alloc (by simp;omega) _
 ·rw[hk] at hp
  have hb:z5 style=[32]:=by unfold z5;rw[hk];rfl
  rw[hb]
  clear hk h4 hb hs
  go_enter Tryd.func13,Tryd.ntmps13
  go_wp2_with (first | (go_at_call 6;refine (hp _).mono ?_;rintro e w' ⟨rfl,rfl⟩))
  refine bodyPost_ret (v:=mdV (40::([32]++(t++([32]++[41])))) e (d+1)) (by simp[results,Tryd.results13,go_sem,zf]) rfl ⟨rfl,?_⟩
  exact ((zc w _).alloc (by simp) _).alloc (by simp;omega) _
 ·rw[hk] at hp
  have hb:z5 style=[10,9]:=by unfold z5;rw[hk];rfl
  rw[hb]
  clear hk h4 hb hs
  go_enter Tryd.func13,Tryd.ntmps13
  go_wp2_with (first | (go_at_call 6;refine (hp _).mono ?_;rintro e w' ⟨rfl,rfl⟩))
  refine bodyPost_ret (v:=mdV (40::([10,9]++(t++([10,9]++[41])))) e (d+1)) (by simp[results,Tryd.results13,go_sem,zf]) rfl ⟨rfl,?_⟩
  exact ((zc w _).alloc (by simp) _).alloc (by simp;omega) _
 ·rw[hk] at hp
  have hb:z5 style=[32,35,32,111,114,10]:=by unfold z5;rw[hk];rfl
  rw[hb]
  clear hk h4 hb hs
  go_enter Tryd.func13,Tryd.ntmps13
  go_wp2_with (first | (go_at_call 6;refine (hp _).mono ?_;rintro e w' ⟨rfl,rfl⟩))
  refine bodyPost_ret (v:=mdV (40::([32,35,32,111,114,10]++(t++([32,35,32,111,114,10]++[41])))) e (d+1)) (by simp[results,Tryd.results13,go_sem,zf]) rfl ⟨rfl,?_⟩
  exact ((zc w _).alloc (by simp) _).alloc (by simp;omega) _
end Go.Proofs.YtiganlkabilblaaDoor
