import Derived.Test.YtiganlkabilblaaDoorV06
import Derived.Deep.OwnRows
set_option linter.all false
set_option maxHeartbeats 64000000
set_option maxRecDepth 100000
namespace Go.Proofs.YtiganlkabilblaaDoor
open Go.RowKit Go.WideMaps Go.Maps Go.Deep
theorem Tryd.infoBool:(Tryd.prog.info? 4).map (fun i=>(i.zero,i.size,i.bytes))=some (some (.bool false),1,1):=by kernel_rfl
theorem Tryd.infoBools:(Tryd.prog.info? 40).map (fun i=>(i.zero,i.size,i.bytes))=some (some (.slice none 0 0),1,24):=by kernel_rfl
def Jn (rbs:List Nat) (N:Nat):Obj:=.cells (rbs.map (Jm · N)++List.replicate (N - rbs.length) (Value.slice none 0 0)).toArray 40 (0,0)
theorem zbM (n:Nat) (hn:n≤20) (w:World):(Instr.makeSlice 40 (.int .i64 n) (.int .i64 n)).run Tryd.prog w = .ok (.slice (some ⟨w.heap.size,0,none⟩) n n) (w.alloc (zH (List.replicate n false))):=by
 rw[run_make_row' 40 4 (.bool false) 1 Tryd.underlying40 Tryd.infoBool rfl .i64 .i64 n (by omega) (by omega) w]
 congr 3
 apply Array.toList_inj.1
 rw[toList_madeCells_one];simp
theorem zgt (n:Nat) (hn:n≤20) (w:World):(Instr.makeSlice 106 (.int .i64 n) (.int .i64 n)).run Tryd.prog w = .ok (.slice (some ⟨w.heap.size,0,none⟩) n n) (w.alloc (Jn [] n)):=by
 rw[run_make_row' 106 40 (.slice none 0 0) 24 Tryd.underlying106 Tryd.infoBools rfl .i64 .i64 n (by omega) (by omega) w]
 congr 3
 apply Array.toList_inj.1
 rw[toList_madeCells_one];simp
def Za (names:List Thk.z7) (E:List Bool) (g:List Thk.ze):Mat:=fun i j=>(ZJ names (List.replicate names.length false) (Thk.ZC (Eb names E) ((g[i]?.map (·.choice)).getD []))).getD j false
theorem zi4 (names:List Thk.z7) (E:List Bool) (g:List Thk.ze) (i:Nat) (hi:i<g.length):ZJ names (List.replicate names.length false) (Thk.ZC (Eb names E) g[i].choice)=Jl names.length (Za names E g i):=by
 apply List.ext_getElem
 ·rw[UO,zi2];simp
 ·intro j h1 h2
  simp only[Jl,List.getElem_map,List.getElem_range,Za,hi,List.getElem?_eq_getElem,Option.map_some,Option.getD_some]
  rw[List.getD_eq_getElem?_getD,List.getElem?_eq_getElem h1];rfl
structure Km (W:World) (xb N:Nat) (rbs:List Nat) (M:Mat) (wr:World):Prop where
 kp:Kp xb W.heap.size W wr
 rows:wr.heap[xb]? = some (Jn rbs N)
 row:∀ i (h:i<rbs.length),wr.heap[rbs[i]]? = some (zH (Jl N (M i)))
 nodup:rbs.Nodup
 new:∀ b ∈ rbs,W.heap.size≤b
theorem zi5 {w:World} {xb N:Nat} {rbs:List Nat} (h:w.heap[xb]? = some (Jn rbs N)) (hl:rbs.length<N):w.cell? ⟨xb,rbs.length,none⟩=some (.slice none 0 0):=by
 rw[z8 h]
 have : 0<N - rbs.length:=by omega
 simp[this]
theorem zi6 (rbs:List Nat) (N b:Nat) (hl:rbs.length<N):Obj.cells ((rbs.map (Jm · N)++List.replicate (N - rbs.length) (Value.slice none 0 0)).toArray.setIfInBounds rbs.length (Jm b N)) 40 (0,0)=Jn (rbs++[b]) N:=by
 unfold Jn
 congr 1
 apply Array.toList_inj.1
 simp only[Array.toList_setIfInBounds]
 rw[List.set_append_right _ _ (by simp)]
 simp only[List.length_map,Nat.sub_self,List.map_append,List.map_cons,List.map_nil,List.append_assoc,List.length_append,List.length_cons,List.length_nil]
 congr 1
 rw[show N - rbs.length=(N - (rbs.length+1))+1 from by omega,List.replicate_succ]
 simp
theorem Ji (w:World) (o:Obj) (b:Nat) (hb:b=w.heap.size):(w.alloc o).heap[b]? = some o:=by rw[hb];exact zk _ _
theorem zQ.blocks {w w':World} {mb eb:Nat} {names:List Thk.z7} {E:List Bool} (h:zQ w mb eb names E) (h1:w'.heap[mb]? = w.heap[mb]?) (h2:w'.heap[eb]? = w.heap[eb]?):zQ w' mb eb names E:=
 ⟨h.map.same h1,by rw[h2];exact h.emp,h.len,h.pos,h.le⟩
theorem Km.next {W:World} {xb N:Nat} {rbs:List Nat} {M:Mat} {wr X w5:World} (h:Km W xb N rbs M wr) (hxb:xb<W.heap.size) (hKX:Kp xb wr.heap.size wr X) (hXs:wr.heap.size+1<X.heap.size) (hX:X.heap[xb]? = some (Jn (rbs++[wr.heap.size+1]) N))
  (hk:Kp (wr.heap.size+1) X.drew.heap.size X.drew w5) (hf:w5.heap[wr.heap.size+1]? = some (zH (Jl N (M rbs.length)))):Km W xb N (rbs++[wr.heap.size+1]) M w5:=by
 have hs:=h.kp.size
 have hlt:∀ b ∈ rbs,b<wr.heap.size:=by
  intro b hb
  obtain⟨i,hi,rfl⟩:=List.getElem_of_mem hb
  exact zd (h.row i hi)
 have hb5:∀ k,k<wr.heap.size→k≠xb→w5.heap[k]? = wr.heap[k]? := by
  intro k h1 h2
  rw[hk.block k (by show k<X.heap.size;omega) (by omega)]
  exact hKX.block k h1 h2
 refine⟨?_,?_,?_,?_,?_⟩
 ·refine h.kp.trans ⟨hk.os.trans hKX.os,hk.tape.trans hKX.tape,hk.output.trans hKX.output,Nat.le_trans hKX.size hk.size,fun k h1 h2=>hb5 k (by omega) h2⟩
 ·rw[hk.block xb (by show xb<X.heap.size;omega) (by omega)];exact hX
 ·intro i hi
  rw[List.length_append] at hi
  by_cases h1:i<rbs.length
  ·rw[List.getElem_append_left h1]
   have hm:=List.getElem_mem h1
   rw[hb5 _ (hlt _ hm) (by have:=h.new _ hm;omega)]
   exact h.row i h1
  ·have h2:i=rbs.length:=by simp at hi;omega
   subst h2
   simp
   exact hf
 ·rw[List.nodup_append]
  refine⟨h.nodup,by simp,?_⟩
  intro a ha b hb
  simp at hb
  have:=hlt a ha
  omega
 ·intro b hb
  rcases List.mem_append.1 hb with hb | hb
  ·exact h.new b hb
  ·simp at hb;omega
theorem zej (w:World) (mb eb:Nat) (names:List Thk.z7) (E:List Bool) (A:Nat→Prop) (g:List Thk.ze) (ga:Addr) (gc:Nat) (hF:zQ w mb eb names E) (hG:Zj w A g (.slice (some ga) g.length gc)) (hA:∀ b,A b→b<w.heap.size) (hgn:g.length=names.length) :
    Calls Tryd.prog 24 #[zI mb eb names.length,.slice (some ga) g.length gc] w fun e w'=>
      Below w.heap.size w w'∧∃ o,e = .returned (JP 8 o)∧(match o with
        | none=>∀ i,i<g.length→Wm (Za names E g) g.length i i=false
        | some i=>i<g.length∧Wm (Za names E g) g.length i i=true∧∀ t,t<i→Wm (Za names E g) g.length t t=false):=by
  have hle:=hF.le
  have hpos:=hF.pos
  have hgl:g.length≤20:=by omega
  obtain⟨W,hW⟩:∃ W,W=(w.alloc (ZB mb eb names.length)).alloc (Jn [] g.length):=⟨_,rfl⟩
  have hB0:Below w.heap.size w W:=by rw[hW];exact (zc _ _).alloc (by simp) _
  have hWsz:W.heap.size=w.heap.size+2:=by rw[hW];simp
  have hbox:W.heap[w.heap.size]? = some (ZB mb eb names.length):=by rw[hW,zm _ _ (by simp)];exact zk _ _
  have hxb:W.heap[w.heap.size+1]? = some (Jn [] g.length):=by
    rw[hW,show w.heap.size+1=(w.alloc (ZB mb eb names.length)).heap.size from by simp];exact zk _ _
  have HF:Hid (zQ W mb eb names E):=hF.below hB0
  have HG:Hid (Zj W A g (.slice (some ga) g.length gc)):=hG.kept (ZF hB0)
  have HA:Hid (∀ b,A b→b<w.heap.size):=hA
  have HB0:Hid (Below w.heap.size w W):=hB0
  have HGN:Hid (g.length=names.length):=hgn
  have HX:Hid (W.heap[w.heap.size+1]? = some (Jn [] g.length)):=hxb
  have hmk1:=zgt g.length hgl
  have hmk2:=zbM g.length hgl
  have hebl:eb<w.heap.size:=zd hF.emp
  have hmbl:mb<w.heap.size:=hF.map.lt
  clear hF hG hB0 hA hgn hxb
  simp only[zI]
  go_enter Tryd.func24,Tryd.ntmps24
  go_wp2_with fail
  rw[← hW]
  clear hmk1
  go_loopg [14] g.length (fun m i wr=>∃ (j:Nat) (rbs:List Nat),m=g.length - j∧rbs.length=j∧j≤g.length∧i = .int .i64 j∧Km W (w.heap.size+1) g.length rbs (Za names E g) wr)
  case atStart=>exact⟨0,[],rfl,rfl,Nat.zero_le _,rfl,Kp.refl _ _ _,HX.out,by simp,List.nodup_nil,by simp⟩
  case round=>
    obtain⟨j,rbs,rfl,hrl,hj,rfl,hR⟩:=hrel
    have HR:Hid (Km W (w.heap.size+1) g.length rbs (Za names E g) wr):=hR
    have HRL:Hid (rbs.length=j):=hrl
    have hszr:=hR.kp.size
    have hbx0:wr.heap[w.heap.size]? = some (ZB mb eb names.length):=by rw[hR.kp.block _ (by omega) (by omega)];exact hbox
    have hbx:=z8 hbx0
    clear hR hbx0 hrl
    by_cases hlt:j<g.length
    · have hSm:Sm A W wr:=by
        refine⟨fun u l hl=>Z6 hl (fun b hb=>HR.out.kp.block b (hl.lt b hb).2 ?_),fun b hb ha=>HR.out.kp.block b hb (by have:=HA.out b ha;omega)⟩
        intro e;subst e
        obtain⟨cur,h1⟩:=Zr hl hb
        rw[HX.out] at h1
        simp[Jn] at h1
      have hGr:Zj wr A g (.slice (some ga) g.length gc):=HG.out.kept hSm
      obtain⟨gb,a,c,rfl,hgb,hAgb,c0,c1,hCh,hnm⟩:=hGr.at j hlt
      have hlt':(j:Int)<g.length:=by omega
      have hxc:wr.cell? ⟨w.heap.size+1,j,none⟩=some (.slice none 0 0):=by
        have:=zi5 HR.out.rows (by rw[HRL.out];exact hlt)
        rw[HRL.out] at this;exact this
      have hxf:=zi HR.out.rows j
      have hgbl:=HA.out gb hAgb
      have hw9:w.heap.size<wr.heap.size:=by omega
      have hw10:w.heap.size+1<wr.heap.size:=by omega
      clear hGr hnm
      go_wp2_with fail
      obtain⟨X,hX⟩:∃ X,X=(((wr.setCell ⟨w.heap.size+1,j,none⟩ (.slice (some ⟨wr.heap.size+1,0,none⟩) g.length g.length)).alloc (.cells #[.string ⟨List.toArray g[j].name⟩,.slice a g[j].choice.length c] 90)).alloc (zH (List.replicate g.length false))):=⟨_,rfl⟩
      have hXsz:X.heap.size=wr.heap.size+2:=by rw[hX];simp
      have hKX:Kp (w.heap.size+1) wr.heap.size wr X:=by
        rw[hX];exact (((Kp.refl _ _ _).setRb _ _).alloc (by simp) _).alloc (by simp) _
      have hKWX:Kp (w.heap.size+1) W.heap.size W X:=HR.out.kp.trans (hKX.mono hszr)
      have hXfb:X.heap[wr.heap.size+1]? = some (zH (List.replicate g.length false)):=by
        rw[hX];exact Ji _ _ _ (by simp)
      have hXxb:X.heap[w.heap.size+1]? = some (Jn (rbs++[wr.heap.size+1]) g.length):=by
        rw[hX,zm _ _ (by simp;omega),zm _ _ (by simp;omega)]
        have h1:=HRL.out
        have h2:=zi6 rbs g.length (wr.heap.size+1) (by omega)
        rw[zo (cs:=(rbs.map (Jm · g.length)++List.replicate (g.length - rbs.length) (Value.slice none 0 0)).toArray) HR.out.rows,← h2,h1]
        rfl
      have hFX:zQ X.drew mb eb names E:=HF.out.blocks (hKWX.block mb (by omega) (by omega)) (hKWX.block eb (by omega) (by omega))
      have hSX : Sm A wr X.drew := ⟨fun u l hl => Z6 hl (fun b hb => hKX.block b (hl.lt b hb).2 (by
          intro e;subst e
          obtain⟨cur,h1⟩:=Zr hl hb
          rw[HR.out.rows] at h1
          simp[Jn] at h1)),fun b hb ha=>hKX.block b hb (by have:=HA.out b ha;omega)⟩
      have hch:=zgx (Qt g[j].choice) X.drew mb eb (wr.heap.size+1) names E (List.replicate names.length false) A g[j].choice (.slice a g[j].choice.length c) hFX (by rw[← HGN.out];exact hXfb) (by simp) (by omega) (hCh.kept hSX) (fun b hb=>by have:=HA.out b hb;omega) (Nat.le_refl _)
      rw[zi4 names E g j hlt] at hch
      have hch' : Calls Tryd.prog 39 #[.agg #[.map (some mb), .slice (some ⟨eb, 0, none⟩) names.length names.length], .slice a g[j].choice.length c, .slice (some ⟨wr.heap.size + 1, 0, none⟩) g.length g.length] X.drew fun e w' =>
          e = .returned (.tuple #[])∧Kp (wr.heap.size+1) X.drew.heap.size X.drew w'∧w'.heap[wr.heap.size+1]? = some (zH (Jl g.length (Za names E g j))):=by
        have h1:=hch
        simp only[zI,Jm] at h1
        rw[HGN.out]
        exact h1
      have q0:∀ o,X.cell? ⟨w.heap.size,o,none⟩=(#[.map (some mb),.slice (some ⟨eb,0,none⟩) names.length names.length]:Array Value)[o]? := fun o=>by
        rw[JS hKX (by omega) (by omega)];exact hbx o
      have q1:X.cell? ⟨wr.heap.size,1,none⟩=some (.slice a g[j].choice.length c):=by
        rw[hX,World.cell?_alloc_lt _ _ _ (by simp)]
        rw[z8 (Ji _ _ _ (by simp))];rfl
      have q2:X.cell? ⟨w.heap.size+1,j,none⟩=some (.slice (some ⟨wr.heap.size+1,0,none⟩) g.length g.length):=by
        rw[z8 hXxb]
        have:=HRL.out
        simp[Jm,← this]
      have HKWX:Hid (Kp (w.heap.size+1) W.heap.size W X):=hKWX
      have HKX:Hid (Kp (w.heap.size+1) wr.heap.size wr X):=hKX
      have HXX:Hid (X.heap[w.heap.size+1]? = some (Jn (rbs++[wr.heap.size+1]) g.length)):=hXxb
      rw[← hX]
      clear hX hKX hKWX hXfb hXxb hFX hSX hch hCh c0 c1 hxc hxf hbx hmk2
      go_region_with (go_at_call 39;refine hch'.mono ?_;rintro e w5 ⟨rfl,hk5,hf5⟩)
      all_goals
        have hN:=HR.out.next (by omega) HKX.out (by omega) HXX.out hk5 (by rw[HRL.out];exact hf5)
        have hNl:(rbs++[wr.heap.size+1]).length=j+1:=by have:=HRL.out;simp;omega
        have HNN:Hid (Km W (w.heap.size+1) g.length (rbs++[wr.heap.size+1]) (Za names E g) w5):=hN
        have HNL:Hid ((rbs++[wr.heap.size+1]).length=j+1):=hNl
        clear hN hNl hk5 hf5 hch'
        go_wp2_with fail
        go_roundg (g.length - (j+1))
        case measure=>omega
        case rel=>exact⟨j+1,_,rfl,HNL.out,by omega,by go_num,HNN.out⟩
    · have hjg:j=g.length:=by omega
      have hrl:rbs.length=g.length:=by rw[HRL.out];exact hjg
      have hMat:ZD wr (w.heap.size+1) g.length rbs (Za names E g):=by
        refine⟨?_,hrl,HR.out.row,HR.out.nodup⟩
        rw[HR.out.rows]
        unfold Jn
        rw[hrl]
        simp
      have hsp:=ziV wr (w.heap.size+1) g.length rbs (Za names E g) hMat hgl
      have HRLg:Hid (rbs.length=g.length):=hrl
      clear hjg hrl hMat hmk2
      go_wp2_with fail
      refine hsp.mono ?_
      rintro e w2 ⟨rfl,hM2,hK2⟩
      have HM2:Hid (ZD w2 (w.heap.size+1) g.length rbs (Wm (Za names E g) g.length)):=hM2
      have hBw:Below w.heap.size w w2:=by
        have h1:Kp (w.heap.size+1) w.heap.size w wr:=(Kp.of HB0.out).trans (HR.out.kp.mono (by omega))
        refine⟨hK2.os.trans h1.os,hK2.tape.trans h1.tape,hK2.output.trans h1.output,Nat.le_trans h1.size hK2.size,fun k hk=>?_⟩
        rw[hK2.block k (by omega) (fun hm=>by have:=HR.out.new k hm;omega)]
        exact h1.block k hk (by omega)
      have HBW:Hid (Below w.heap.size w w2):=hBw
      clear hsp hM2 hK2 hBw
      go_wp2_with fail
      go_loopg [38] g.length (fun m i wx=>∃ j:Nat,m=g.length - j∧j≤g.length∧i = .int .i64 j∧wx=w2∧Hid (∀ t,t<j→Wm (Za names E g) g.length t t=false))
      case atStart=>exact⟨0,rfl,Nat.zero_le _,rfl,rfl,fun t ht=>by omega⟩
      case round=>
        obtain⟨t,rfl,ht,rfl,rfl,hno⟩:=hrel
        by_cases hlt2:t<g.length
        · have htr:t<rbs.length:=by rw[HRLg.out];exact hlt2
          have d1:=HM2.out.cell t htr
          have d2:=HM2.out.at t t htr hlt2
          have hlt2':(t:Int)<g.length:=by omega
          generalize rbs[t]=bt at *
          cases hv:Wm (Za names E g) g.length t t with
          | true=>
            rw[hv] at d2
            have HV:Hid (Wm (Za names E g) g.length t t=true):=hv
            clear hv
            go_wp2_with fail
            go_ret
            exact⟨HBW.out,some t,rfl,hlt2,HV.out,hno.out⟩
          | false=>
            rw[hv] at d2
            have HN:Hid (∀ i,i<t+1→Wm (Za names E g) g.length i i=false):=by
              intro i hi
              by_cases e:i=t
              · subst e;exact hv
              · exact hno.out i (by omega)
            clear hv hno
            go_wp2_with fail
            go_roundg (g.length - (t+1))
            case measure=>omega
            case rel=>exact⟨t+1,rfl,by omega,by go_num,rfl,HN⟩
        · have HN:Hid (∀ i,i<g.length→Wm (Za names E g) g.length i i=false):=fun i hi=>hno.out i (by omega)
          clear hno
          go_wp2_with fail
          go_ret
          exact⟨HBW.out,none,rfl,HN.out⟩
end Go.Proofs.YtiganlkabilblaaDoor
namespace Go.Proofs.YtiganlkabilblaaDoor
open Go.RowKit Go.WideMaps Go.Maps
def Ks (names:List Thk.z7) (E:List Bool) (g:List Thk.ze):Option Nat→Prop
 | none=>∀ i,i<g.length→Wm (Za names E g) g.length i i=false
 | some i=>i<g.length∧Wm (Za names E g) g.length i i=true∧∀ t,t<i→Wm (Za names E g) g.length t t=false
inductive Qh (g:List Thk.ze):Except (Nat × Nat) (List Bool)→Prop
 | twice {i}:JG (zg g) (some i)→Qh g (.error (5,i))
 | unknown {i}:JG (zg g) none→Qp g (Thk.zx (zv (zg g))) (some i)→Qh g (.error (6,i))
 | loop {E i}:JG (zg g) none→Qp g (Thk.zx (zv (zg g))) none→E.length=g.length→QP (zg g) g E→QQ (zg g) g E→Qp g (Thk.zx (zJ (Eb (zg g) E))) (some i)→Qh g (.error (7,i))
 | left {E i}:JG (zg g) none→Qp g (Thk.zx (zv (zg g))) none→E.length=g.length→QP (zg g) g E→QQ (zg g) g E→Qp g (Thk.zx (zJ (Eb (zg g) E))) none→Ks (zg g) E g (some i)→Qh g (.error (8,i))
 | ok {E}:JG (zg g) none→Qp g (Thk.zx (zv (zg g))) none→E.length=g.length→QP (zg g) g E→QQ (zg g) g E→Qp g (Thk.zx (zJ (Eb (zg g) E))) none→Ks (zg g) E g none→Qh g (.ok E)
abbrev K3:Value:=.agg #[.map none,.slice none 0 0]
abbrev JY:Obj:=.cells #[.map none,.slice none 0 0] 42
def zdv (g:List Thk.ze) (w:World) (e:Ending) (w':World):Prop:=
 ∃ res,Qh g res∧Below w.heap.size w w'∧match res with
  | .ok E=>∃ mb eb,e = .returned (.tuple #[zI mb eb g.length,.nilIface])∧zQ w' mb eb (zg g) E
  | .error (er,p)=>e = .returned (.tuple #[K3,zS er p])
theorem Q8 (g:List Thk.ze):(zg g).length=g.length:=by simp[zg]
theorem Zd.empty {w:World} {mb:Nat} (h:w.heap[mb]? = some (.map #[] 0)):Zd w mb []:=by
 refine⟨.map [],⟨#[],0,h,⟨by simp,Go.MapKept.stamped_empty 0,by simp⟩,Nat.le_refl _,rfl⟩,?_⟩
 intro b
 exact⟨rfl,rfl⟩
structure JI (w:World) (g:List Thk.ze) (A':Nat→Prop) (ga:Addr) (gc:Nat) (wk:World):Prop where
 below:Below w.heap.size w wk
 res:wk.heap[w.heap.size]? = some JY
 var:wk.heap[w.heap.size+3]? = some (ZB (w.heap.size+1) (w.heap.size+2) g.length)
 gram:Zj wk A' g (.slice (some ga) g.length gc)
 size:w.heap.size+4≤wk.heap.size
theorem JI.step {w:World} {g:List Thk.ze} {A':Nat→Prop} {ga:Addr} {gc:Nat} {wk w':World} (h:JI w g A' ga gc wk) (hb:Below wk.heap.size wk w'):JI w g A' ga gc w':=by
 have hs:=h.size
 have h1:=h.below.size
 have h2:=hb.size
 exact⟨h.below.trans (hb.mono h1),by rw[hb.block _ (by omega)];exact h.res,by rw[hb.block _ (by omega)];exact h.var,h.gram.kept (ZF hb),by omega⟩
theorem JI.stepB {w:World} {g:List Thk.ze} {A':Nat→Prop} {ga:Addr} {gc:Nat} {wk w':World} {E:List Bool} (h:JI w g A' ga gc wk) (hk:Kp (w.heap.size+2) wk.heap.size wk w') (he:wk.heap[w.heap.size+2]? = some (zH E)) (hA:∀ b,A' b→b<w.heap.size):JI w g A' ga gc w':=by
 have hs:=h.size
 have h1:=h.below.size
 have h2:=hk.size
 refine⟨h.below.trans ⟨hk.os,hk.tape,hk.output,hk.size,fun k hk'=>hk.block k (by omega) (by omega)⟩,?_,?_,?_,by omega⟩
 ·rw[hk.block _ (by omega) (by omega)];exact h.res
 ·rw[hk.block _ (by omega) (by omega)];exact h.var
 ·exact h.gram.kept (zas he hk (fun b hb=>by have:=hA b hb;omega))
theorem zfY (w:World) (A:Nat→Prop) (g:List Thk.ze) (ga:Addr) (gc:Nat) (hG:Zj w A g (.slice (some ga) g.length gc)) (hgl:g.length≤20) (hg0:g≠[]) :
  Calls Tryd.prog 15 #[.slice (some ga) g.length gc] w fun e w'=>zdv g w e w':=by
 obtain⟨V,hV⟩:∃ V,V=(((w.alloc JY).alloc (.map #[] 0)).alloc (zH (List.replicate g.length false))).alloc (ZB (w.heap.size+1) (w.heap.size+2) g.length):=⟨_,rfl⟩
 have hVsz:V.heap.size=w.heap.size+4:=by rw[hV];simp
 have hBV:Below w.heap.size w V:=by rw[hV];exact (((zc _ _).alloc (by simp) _).alloc (by simp;omega) _).alloc (by simp;omega) _
 have hVr:V.heap[w.heap.size]? = some JY:=by
  rw[hV,zm _ _ (by simp;omega),zm _ _ (by simp;omega),zm _ _ (by simp)];exact zk _ _
 have hVm:V.heap[w.heap.size+1]? = some (.map #[] 0):=by
  rw[hV,zm _ _ (by simp),zm _ _ (by simp)];exact Ji _ _ _ (by simp)
 have hVe:V.heap[w.heap.size+2]? = some (zH (List.replicate g.length false)):=by
  rw[hV,zm _ _ (by simp)];exact Ji _ _ _ (by simp)
 have hVf:V.heap[w.heap.size+3]? = some (ZB (w.heap.size+1) (w.heap.size+2) g.length):=by
  rw[hV];exact Ji _ _ _ (by simp)
 have hgp : 0<g.length:=by cases g with
  | nil=>exact absurd rfl hg0
  | cons _ _=>simp
 obtain⟨A',hA'⟩:∃ A':Nat→Prop,A'=fun b=>A b∧b<w.heap.size:=⟨_,rfl⟩
 have hA1:∀ b,A' b→b<w.heap.size:=fun b hb=>by rw[hA'] at hb;exact hb.2
 have hG1:Zj V A' g (.slice (some ga) g.length gc):=by
  have h1:Zj w A' g (.slice (some ga) g.length gc):=by
   obtain⟨vs,hr,hrs⟩:=hG
   exact⟨vs,hr.mono (fun b h1 h2=>by rw[hA'];exact⟨h2,h1⟩),zW.mono (fun b h1 h2=>by rw[hA'];exact⟨h2,h1⟩) hrs⟩
  exact h1.kept (ZF hBV)
 have HA1:Hid (∀ b,A' b→b<w.heap.size):=hA1
 have HG1:Hid (Zj V A' g (.slice (some ga) g.length gc)):=hG1
 have HBV:Hid (Below w.heap.size w V):=hBV
 have HVE:Hid (V.heap[w.heap.size+2]? = some (zH (List.replicate g.length false))):=hVe
 have HVR:Hid (V.heap[w.heap.size]? = some JY):=hVr
 have HVF:Hid (V.heap[w.heap.size+3]? = some (ZB (w.heap.size+1) (w.heap.size+2) g.length)):=hVf
 have hnum:=zgW V (w.heap.size+1) (w.heap.size+2) g.length A' g ga gc (Zd.empty hVm) hG1 (fun b hb=>by have:=hA1 b hb;omega) hgl
 have hmk:=zbM g.length hgl
 have hmm:=@run_makeMap Tryd.prog
 have hmf:∀ (fn:Fn) (first cap:Array Value) (w:World),(Instr.makeFunc fn first cap).run Tryd.prog w = .ok (.func fn first cap) w:=fun _ _ _ _=>rfl
 simp only[zI] at hnum
 clear hG hG1 hA1 hA' hBV hVm hVe hVr hVf
 go_enter Tryd.func15,Tryd.ntmps15
 go_wp2_with fail
 rw[← hV]
 refine hnum.mono ?_
 rintro e w1 ⟨hK1,o,hft,rfl,hm1⟩
 have hs1:=hK1.size
 have hL1:JI w g A' ga gc w1:=by
  refine⟨HBV.out.trans ⟨hK1.os,hK1.tape,hK1.output,hK1.size,fun k hk=>hK1.block k (by omega) (by omega)⟩,?_,?_,?_,by omega⟩
  ·rw[hK1.block _ (by omega) (by omega)];exact HVR.out
  ·rw[hK1.block _ (by omega) (by omega)];exact HVF.out
  ·refine HG1.out.kept ⟨fun u l hl=>Z6 hl (fun b hb=>hK1.block b (hl.lt b hb).2 ?_),fun b hb ha=>hK1.block b hb (by have:=HA1.out b ha;omega)⟩
   intro e;subst e
   obtain⟨cur,h1⟩:=Zr hl hb
   have:V.heap[w.heap.size+1]? = some (.map #[] 0):=by
    rw[hV,zm _ _ (by simp),zm _ _ (by simp)];exact Ji _ _ _ (by simp)
   rw[this] at h1;cases h1
 have he1:w1.heap[w.heap.size+2]? = some (zH (List.replicate g.length false)):=by
  rw[hK1.block _ (by omega) (by omega)];exact HVE.out
 have L1:Hid (JI w g A' ga gc w1):=hL1
 have q1:=z8 hL1.res
 have f1:=zi hL1.res
 have v1:=z8 hL1.var
 have hlt1:w.heap.size<w1.heap.size:=by omega
 have HFT:Hid (JG (zg g) o):=hft
 clear hnum hK1 hft hL1 hmk hmm HBV HVE HVR HVF HG1 hV
 cases o with
 | some i=>
  simp only[JP,zS]
  clear hm1
  go_wp2_with fail
  refine bodyPost_ret (v:=.tuple #[K3,zS 5 i]) (by simp[results,Tryd.results15,go_sem,zS,q1,hlt1]) rfl ?_
  exact⟨.error (5,i),.twice HFT.out,(L1.out.below.setCell (Nat.le_refl _) _).setCell (Nat.le_refl _) _,rfl⟩
 | none=>
  have hm1:=hm1 rfl
  have hF1:zQ w1 (w.heap.size+1) (w.heap.size+2) (zg g) (List.replicate g.length false):=⟨hm1,he1,by simp[Q8],by rw[Q8];exact hgp,by rw[Q8];exact hgl⟩
  have hfu:=zeY w1 (w.heap.size+1) (w.heap.size+2) (zg g) (List.replicate g.length false) A' g ga gc 6 hF1 L1.out.gram hgl
  rw[Q8] at hfu
  have HF1:Hid (zQ w1 (w.heap.size+1) (w.heap.size+2) (zg g) (List.replicate g.length false)):=hF1
  simp only[zI] at hfu
  clear hm1 hF1 he1
  simp only[JP]
  go_wp2_with fail
  refine hfu.mono ?_
  rintro e w2 ⟨hb2,o2,hfi2,rfl⟩
  have hL2:=L1.out.step hb2
  have hs2:=hb2.size
  have L2:Hid (JI w g A' ga gc w2):=hL2
  have q2:=z8 hL2.res
  have f2:=zi hL2.res
  have v2:=z8 hL2.var
  have hlt2:w.heap.size<w2.heap.size:=by omega
  have HFI2:Hid (Qp g (Thk.zx (zv (zg g))) o2):=hfi2
  have HF2:Hid (zQ w2 (w.heap.size+1) (w.heap.size+2) (zg g) (List.replicate g.length false)):=HF1.out.below hb2
  clear hfu hb2 hfi2 hL2 q1 f1 v1
  cases o2 with
  | some i=>
   simp only[JP,zS]
   go_wp2_with fail
   refine bodyPost_ret (v:=.tuple #[K3,zS 6 i]) (by simp[results,Tryd.results15,go_sem,zS,q2,hlt2]) rfl ?_
   exact⟨.error (6,i),.unknown HFT.out HFI2.out,(L2.out.below.setCell (Nat.le_refl _) _).setCell (Nat.le_refl _) _,rfl⟩
  | none=>
   have hfe:=zeU w2 (w.heap.size+1) (w.heap.size+2) (zg g) (List.replicate g.length false) A' g ga gc HF2.out L2.out.gram (fun b hb=>by have:=HA1.out b hb;omega) (Q8 g).symm (fun F _ i hi=>by simp[List.getD_eq_getElem?_getD,List.getElem?_replicate] at hi;split at hi<;>simp_all)
   rw[Q8] at hfe
   simp only[zI] at hfe
   simp only[JP]
   go_wp2_with fail
   refine hfe.mono ?_
   rintro e w3 ⟨rfl,hK3,E,hF3,hcl3,hle3⟩
   have hL3:=L2.out.stepB hK3 HF2.out.emp HA1.out
   have hs3:=hK3.size
   have L3:Hid (JI w g A' ga gc w3):=hL3
   have v3:=z8 hL3.var
   have hlt3:w.heap.size<w3.heap.size:=by omega
   have HCL:Hid (QP (zg g) g E):=hcl3
   have HLE:Hid (QQ (zg g) g E):=hle3
   have HEL:Hid (E.length=g.length):=by show _=_;rw[hF3.len,Q8]
   have hfl:=zeW w3 (w.heap.size+1) (w.heap.size+2) (zg g) E A' g ga gc 7 hF3 hL3.gram hgl
   rw[Q8] at hfl
   simp only[zI] at hfl
   have HF3:Hid (zQ w3 (w.heap.size+1) (w.heap.size+2) (zg g) E):=hF3
   clear hfe hK3 hF3 hcl3 hle3 hL3 q2 f2 v2
   go_wp2_with fail
   refine hfl.mono ?_
   rintro e w4 ⟨hb4,o4,hfi4,rfl⟩
   have hL4:=L3.out.step hb4
   have hs4:=hb4.size
   have L4:Hid (JI w g A' ga gc w4):=hL4
   have q4:=z8 hL4.res
   have f4:=zi hL4.res
   have v4:=z8 hL4.var
   have hlt4:w.heap.size<w4.heap.size:=by omega
   have HFI4:Hid (Qp g (Thk.zx (zJ (Eb (zg g) E))) o4):=hfi4
   have HF4:Hid (zQ w4 (w.heap.size+1) (w.heap.size+2) (zg g) E):=HF3.out.below hb4
   clear hfl hb4 hfi4 hL4 v3
   cases o4 with
   | some i=>
    simp only[JP,zS]
    go_wp2_with fail
    refine bodyPost_ret (v:=.tuple #[K3,zS 7 i]) (by simp[results,Tryd.results15,go_sem,zS,q4,hlt4]) rfl ?_
    exact⟨.error (7,i),.loop HFT.out HFI2.out HEL.out HCL.out HLE.out HFI4.out,(L4.out.below.setCell (Nat.le_refl _) _).setCell (Nat.le_refl _) _,rfl⟩
   | none=>
    have hcl:=zej w4 (w.heap.size+1) (w.heap.size+2) (zg g) E A' g ga gc HF4.out L4.out.gram (fun b hb=>by have:=HA1.out b hb;omega) (Q8 g).symm
    rw[Q8] at hcl
    simp only[zI] at hcl
    simp only[JP]
    go_wp2_with fail
    refine hcl.mono ?_
    rintro e w5 ⟨hb5,o5,rfl,hlf⟩
    have hL5:=L4.out.step hb5
    have hs5:=hb5.size
    have L5:Hid (JI w g A' ga gc w5):=hL5
    have q5:=z8 hL5.res
    have f5:=zi hL5.res
    have v5:=z8 hL5.var
    have hlt5:w.heap.size<w5.heap.size:=by omega
    have HLF:Hid (Ks (zg g) E g o5):=by cases o5<;>exact hlf
    have HF5:Hid (zQ w5 (w.heap.size+1) (w.heap.size+2) (zg g) E):=HF4.out.below hb5
    clear hcl hb5 hlf hL5 q4 f4 v4
    cases o5 with
    | some i=>
     simp only[JP,zS]
     go_wp2_with fail
     refine bodyPost_ret (v:=.tuple #[K3,zS 8 i]) (by simp[results,Tryd.results15,go_sem,zS,q5,hlt5]) rfl ?_
     exact⟨.error (8,i),.left HFT.out HFI2.out HEL.out HCL.out HLE.out HFI4.out HLF.out,(L5.out.below.setCell (Nat.le_refl _) _).setCell (Nat.le_refl _) _,rfl⟩
    | none=>
     simp only[JP]
     go_wp2_with fail
     refine bodyPost_ret (v:=.tuple #[zI (w.heap.size+1) (w.heap.size+2) g.length,.nilIface]) (by simp[results,Tryd.results15,go_sem,zI,q5,hlt5]) rfl ?_
     refine⟨.ok E,.ok HFT.out HFI2.out HEL.out HCL.out HLE.out HFI4.out HLF.out,(L5.out.below.setCell (Nat.le_refl _) _).setCell (Nat.le_refl _) _,_,_,rfl,?_⟩
     exact HF5.out.blocks (by rw[Below.heap_setCell _ _ _ _ (by simp only[];omega),Below.heap_setCell _ _ _ _ (by simp only[];omega)]) (by rw[Below.heap_setCell _ _ _ _ (by simp only[];omega),Below.heap_setCell _ _ _ _ (by simp only[];omega)])
end Go.Proofs.YtiganlkabilblaaDoor
