import Derived.Test.YtgfejacimdmkpaaDoorE1
set_option linter.all false
namespace Go.Proofs.YtgfejacimdmkpaaDoor
open Go.RowKit Go.Extern.Stop Go.Stop Go.Extern

theorem Tryd.isNilRun (a : Addr) (W : World) : (ReflectliteValue.method (ReflectliteValue.valueError "reflectlite.Value.IsNil" 0) ReflectliteValue.isNil #[.agg #[.pointer (some ⟨2, 56, none⟩), .pointer (some a), .int .u64 150]]).run Tryd.prog W
    = (ReflectliteValue.isNil 56 a 150 22).run Tryd.prog W := by kernel_rfl
theorem Tryd.isNilP (a p : Addr) (W : World) (ha : W.cell? a = some (.pointer (some p))) :
    (ReflectliteValue.method (ReflectliteValue.valueError "reflectlite.Value.IsNil" 0) ReflectliteValue.isNil #[.agg #[.pointer (some ⟨2, 56, none⟩), .pointer (some a), .int .u64 150]]).run Tryd.prog W = .ok (.bool false) W := by
  rw [Tryd.isNilRun]
  simp [ReflectliteValue.isNil, loadVar, isAgg, underlying, Tryd.underlying56, ha, Result.andThen]

theorem Tryd.elemRun (a : Addr) (W : World) : (ReflectliteValue.method (ReflectliteValue.valueError "reflectlite.Value.Elem" 0) ReflectliteValue.elem #[.agg #[.pointer (some ⟨2, 56, none⟩), .pointer (some a), .int .u64 150]]).run Tryd.prog W
    = (ReflectliteValue.elem 56 a 150 22).run Tryd.prog W := by kernel_rfl
theorem Tryd.elemVP (a p : Addr) (W : World) (ha : W.cell? a = some (.pointer (some p))) :
    (ReflectliteValue.method (ReflectliteValue.valueError "reflectlite.Value.Elem" 0) ReflectliteValue.elem #[.agg #[.pointer (some ⟨2, 56, none⟩), .pointer (some a), .int .u64 150]]).run Tryd.prog W
      = .ok (.agg #[.pointer (some ⟨2, 54, none⟩), .pointer (some p), .int .u64 409]) W := by
  rw [Tryd.elemRun]
  simp [ReflectliteValue.elem, loadVar, isAgg, underlying, Tryd.underlying56, ha, Result.andThen, Tryd.elemOfP, Tryd.mkF]

theorem Tryd.setRun (ta b : Addr) (W : World) : (ReflectliteValue.set #[.agg #[.pointer (some ⟨2, 54, none⟩), .pointer (some ta), .int .u64 409], .agg #[.pointer (some ⟨2, 54, none⟩), .pointer (some b), .int .u64 153]]).run Tryd.prog W
    = (loadVar 54 b >>= fun v => storeVar 54 ta v >>= fun _ => pure (.tuple #[])).run Tryd.prog W := by kernel_rfl

theorem Tryd.setF (tb b : Nat) (x y o1 o2 : Int) (W : World) (hb : W.heap[b]? = some (.cells #[.int .i64 x, .int .i64 y] 54 (0, 0))) (ht : W.heap[tb]? = some (.cells #[.int .i64 o1, .int .i64 o2] 54 (0, 0))) :
    (ReflectliteValue.set #[.agg #[.pointer (some ⟨2, 54, none⟩), .pointer (some ⟨tb, 0, none⟩), .int .u64 409], .agg #[.pointer (some ⟨2, 54, none⟩), .pointer (some ⟨b, 0, none⟩), .int .u64 153]]).run Tryd.prog W
      = .ok (.tuple #[]) ((W.setCell ⟨tb, 0, none⟩ (.int .i64 x)).setCell ⟨tb, 1, none⟩ (.int .i64 y)) := by
  have c0 := cell_of_block hb 0
  have c1 := cell_of_block hb 1
  have t0 := cell_of_block ht 0
  have f0 := frozen_of_block ht 0
  have h1 := heap_setCell_at (o := 0) ht (.int .i64 x)
  have t1 : (W.setCell ⟨tb, 0, none⟩ (.int .i64 x)).cell? ⟨tb, 1, none⟩ = some (.int .i64 o2) := by rw [cell_of_block h1]; rfl
  have f1 := frozen_of_block h1 1
  rw [Tryd.setRun]
  simp only [Sem.run_bind]
  simp [loadVar, Tryd.isAggF, Tryd.sizeF, Result.andThen, go_sem, c0, c1, t0, f0, t1, f1]

theorem Tryd.methodKind (h : Value) (w : World) : (Go.method 290 110 (.agg #[h]) "Kind").run Tryd.prog w = .ok (87, h) w := by kernel_rfl
theorem Tryd.methodElem (h : Value) (w : World) : (Go.method 290 110 (.agg #[h]) "Elem").run Tryd.prog w = .ok (98, .agg #[h]) w := by kernel_rfl
theorem Tryd.methodImpl (h : Value) (w : World) : (Go.method 290 110 (.agg #[h]) "Implements").run Tryd.prog w = .ok (99, .agg #[h]) w := by kernel_rfl
theorem Tryd.methodAssign (h : Value) (w : World) : (Go.method 290 110 (.agg #[h]) "AssignableTo").run Tryd.prog w = .ok (96, .agg #[h]) w := by kernel_rfl

abbrev valO (a : Addr) : Obj := .cells #[.pointer (some ⟨2, 56, none⟩), .pointer (some a), .int .u64 150] 70
abbrev ptrO (tb : Nat) : Obj := .cells #[.pointer (some ⟨tb, 0, none⟩)] 56
abbrev fltO (x y : Int) : Obj := .cells #[.int .i64 x, .int .i64 y] 54

set_option maxHeartbeats 8000000 in
set_option maxRecDepth 100000 in
/-- errors.As(a fault, the address of a fault): it is found, and laid there. -/
theorem as_hit (x y o1 o2 : Int) (tb : Nat) (w : World) (hg : w.cell? ⟨0, 0, none⟩ = some (.iface 110 (.agg #[.pointer (some ⟨2, 44, none⟩)])))
    (ht : w.heap[tb]? = some (.cells #[.int .i64 o1, .int .i64 o2] 54 (0, 0))) :
    Calls Tryd.prog 16 #[.iface 54 (.agg #[.int .i64 x, .int .i64 y]), .iface 56 (.pointer (some ⟨tb, 0, none⟩))] w fun ev w' => ev = .returned (.bool true) ∧ w'.heap[tb]? = some (.cells #[.int .i64 x, .int .i64 y] 54 (0, 0)) ∧ Kp tb w.heap.size w w' := by
  have h25 := @run_callFunc_extern Tryd.prog 25 _ (fun args => ReflectliteValue.unpack (args.getD 0 (.tuple #[]))) Tryd.func25 (by kernel_rfl) (by kernel_rfl) (by kernel_rfl) (by kernel_rfl)
  have h26 := @run_callFunc_extern Tryd.prog 26 _ (ReflectliteValue.methodAny (ReflectliteValue.valueError "reflectlite.Value.Type" 0) (fun t _ _ _ => ReflectliteType.toType t)) Tryd.func26 (by kernel_rfl) (by kernel_rfl) (by kernel_rfl) (by kernel_rfl)
  have h27 := @run_callFunc_extern Tryd.prog 27 _ (ReflectliteValue.method (ReflectliteValue.valueError "reflectlite.Value.IsNil" 0) ReflectliteValue.isNil) Tryd.func27 (by kernel_rfl) (by kernel_rfl) (by kernel_rfl) (by kernel_rfl)
  have hkd := @run_callFunc_extern Tryd.prog 87 _ (ReflectliteType.abiMethod fun t => (fun a : Nat => Value.int IntKind.u8 (a : Int)) <$> Rtype.kind t) Tryd.func87 (by kernel_rfl) (by kernel_rfl) (by kernel_rfl) (by kernel_rfl)
  have hel := @run_callFunc_extern Tryd.prog 98 _ (ReflectliteType.method ReflectliteType.elem) Tryd.func98 (by kernel_rfl) (by kernel_rfl) (by kernel_rfl) (by kernel_rfl)
  have him := @run_callFunc_extern Tryd.prog 99 _ (ReflectliteType.relation "Implements" ReflectliteType.implements_) Tryd.func99 (by kernel_rfl) (by kernel_rfl) (by kernel_rfl) (by kernel_rfl)
  have hto := @run_callFunc_extern Tryd.prog 41 _ ReflectliteType.typeOf Tryd.func41 (by kernel_rfl) (by kernel_rfl) (by kernel_rfl) (by kernel_rfl)
  have has := @run_callFunc_extern Tryd.prog 96 _ (ReflectliteType.relation "AssignableTo" ReflectliteType.assignableTo) Tryd.func96 (by kernel_rfl) (by kernel_rfl) (by kernel_rfl) (by kernel_rfl)
  have hev := @run_callFunc_extern Tryd.prog 42 _ (ReflectliteValue.method (ReflectliteValue.valueError "reflectlite.Value.Elem" 0) ReflectliteValue.elem) Tryd.func42 (by kernel_rfl) (by kernel_rfl) (by kernel_rfl) (by kernel_rfl)
  have hst := @run_callFunc_extern Tryd.prog 43 _ ReflectliteValue.set Tryd.func43 (by kernel_rfl) (by kernel_rfl) (by kernel_rfl) (by kernel_rfl)
  have f1 := Tryd.valueOfP
  have f2 := Tryd.typeP
  have mK := Tryd.methodKind
  have mE := Tryd.methodElem
  have mI := Tryd.methodImpl
  have mA := Tryd.methodAssign
  have k1 := Tryd.kindP
  have k2 := Tryd.kindF
  have e1 := Tryd.elemP
  have i1 := Tryd.implF
  have t1 := Tryd.typeOfF
  have a1 := Tryd.assignF
  have v1 := Tryd.valueOfF
  have htl := heap_lt ht
  have hgl : 0 < w.heap.size := by
    rcases Nat.lt_or_ge 0 w.heap.size with h | h
    · exact h
    · simp [World.cell?, Array.getElem?_eq_none h] at hg
  have n8 := Tryd.isNilP ⟨w.heap.size, 0, none⟩ ⟨tb, 0, none⟩ ((w.alloc (ptrO tb)).alloc (valO ⟨w.heap.size, 0, none⟩)) (by rw [World.cell?_alloc_lt _ _ _ (by simp)]; simp)
  have hg2 : ((w.alloc (ptrO tb)).alloc (valO ⟨w.heap.size, 0, none⟩)).cell? ⟨0, 0, none⟩ = some (.iface 110 (.agg #[.pointer (some ⟨2, 44, none⟩)])) := by
    rw [World.cell?_alloc_lt _ _ _ (by simp only [World.size_alloc]; omega), World.cell?_alloc_lt _ _ _ (by simp only []; omega)]; exact hg
  have el := Tryd.elemVP ⟨w.heap.size, 0, none⟩ ⟨tb, 0, none⟩ (((w.alloc (ptrO tb)).alloc (valO ⟨w.heap.size, 0, none⟩)).alloc (valO ⟨w.heap.size, 0, none⟩)) (by rw [World.cell?_alloc_lt _ _ _ (by simp; omega), World.cell?_alloc_lt _ _ _ (by simp)]; simp)
  obtain ⟨X, hX⟩ : ∃ X, X = (((w.alloc (ptrO tb)).alloc (valO ⟨w.heap.size, 0, none⟩)).alloc (valO ⟨w.heap.size, 0, none⟩)).alloc (fltO x y) := ⟨_, rfl⟩
  have hXsz : X.heap.size = w.heap.size + 4 := by rw [hX]; simp
  have hBX : Below w.heap.size w X := by rw [hX]; exact (((below_alloc _ _).alloc (by simp) _).alloc (by simp; omega) _).alloc (by simp; omega) _
  have hXt : X.heap[tb]? = some (.cells #[.int .i64 o1, .int .i64 o2] 54 (0, 0)) := by rw [hBX.block _ htl]; exact ht
  have st := Tryd.setF tb (w.heap.size + 1 + 1 + 1) x y o1 o2 X (by rw [hX]; exact heap_alloc_at _ _ _ (by simp)) hXt
  rw [hX] at st
  go_enter Tryd.func16, Tryd.ntmps16
  go_wp2
  refine wp_loop_rounds 1 ?_
  rw [rounds_succ]
  go_wp2
  go_ret
  rw [← hX]
  refine ⟨rfl, ?_, ((Kp.of hBX).setRb _ _).setRb _ _⟩
  rw [heap_setCell_at (heap_setCell_at hXt _)]
  rfl
end Go.Proofs.YtgfejacimdmkpaaDoor
