import Derived.Test.YtgfejacimdmkpaaDoorL1
import Derived.Test.YtgfejacimdmkpaaDoorG1
set_option linter.all false
namespace Go.Proofs.YtgfejacimdmkpaaDoor
open Go.RowKit

abbrev bs (l : List UInt8) : ByteArray := ⟨l.toArray⟩
theorem bs_app (a b : List UInt8) : bs a ++ bs b = bs (a ++ b) := by
  apply ByteArray.ext; simp [bs]
theorem bs_size (a : List UInt8) : (bs a).size = a.length := by simp [bs, ByteArray.size]

/-- An expression that was made, as a value. -/
abbrev mdV (t : List UInt8) (e : Bool) (d : Nat) : Value := .agg #[.string (bs t), .bool e, .int .i64 d]
abbrev mdO (t : List UInt8) (e : Bool) (d : Nat) : Obj := .cells #[.string (bs t), .bool e, .int .i64 d] 24

def blankOf (style : Int) : List UInt8 := [[], [32], [10, 9], [32, 35, 32, 111, 114, 10]].getD (pickN style 4) []

set_option maxHeartbeats 1000000 in
set_option maxRecDepth 100000 in
theorem brackets_any (t : List UInt8) (e : Bool) (d : Nat) (style : Int) (w : World) (hs : i64 style) (ht : t.length ≤ 100000) (hd : d ≤ 1000) :
    Calls Tryd.prog 13 #[mdV t e d, .int .i64 style] w fun e' w' => e' = .returned (mdV (40 :: (blankOf style ++ (t ++ (blankOf style ++ [41])))) e (d + 1)) ∧ Below w.heap.size w w' := by
  have hp := fun w => pick_any style 4 w hs (by decide) (by decide)
  have h4 := pickN_lt style (n := 4) (by decide)
  have hk : pickN style 4 = 0 ∨ pickN style 4 = 1 ∨ pickN style 4 = 2 ∨ pickN style 4 = 3 := by omega
  have hsz := bs_size t
  rcases hk with hk | hk | hk | hk
  · rw [hk] at hp
    have hb : blankOf style = [] := by unfold blankOf; rw [hk]; rfl
    rw [hb]
    clear hk h4 hb hs
    go_enter Tryd.func13, Tryd.ntmps13
    go_wp2_with (first | (go_at_call 6; refine (hp _).mono ?_; rintro e w' ⟨rfl, rfl⟩))
    refine bodyPost_ret (v := mdV (40 :: ([] ++ (t ++ ([] ++ [41])))) e (d + 1)) (by simp [results, Tryd.results13, go_sem, bs_app]) rfl ⟨rfl, ?_⟩
    exact ((below_alloc w _).alloc (by simp) _).alloc (by simp; omega) _
  · rw [hk] at hp
    have hb : blankOf style = [32] := by unfold blankOf; rw [hk]; rfl
    rw [hb]
    clear hk h4 hb hs
    go_enter Tryd.func13, Tryd.ntmps13
    go_wp2_with (first | (go_at_call 6; refine (hp _).mono ?_; rintro e w' ⟨rfl, rfl⟩))
    refine bodyPost_ret (v := mdV (40 :: ([32] ++ (t ++ ([32] ++ [41])))) e (d + 1)) (by simp [results, Tryd.results13, go_sem, bs_app]) rfl ⟨rfl, ?_⟩
    exact ((below_alloc w _).alloc (by simp) _).alloc (by simp; omega) _
  · rw [hk] at hp
    have hb : blankOf style = [10, 9] := by unfold blankOf; rw [hk]; rfl
    rw [hb]
    clear hk h4 hb hs
    go_enter Tryd.func13, Tryd.ntmps13
    go_wp2_with (first | (go_at_call 6; refine (hp _).mono ?_; rintro e w' ⟨rfl, rfl⟩))
    refine bodyPost_ret (v := mdV (40 :: ([10, 9] ++ (t ++ ([10, 9] ++ [41])))) e (d + 1)) (by simp [results, Tryd.results13, go_sem, bs_app]) rfl ⟨rfl, ?_⟩
    exact ((below_alloc w _).alloc (by simp) _).alloc (by simp; omega) _
  · rw [hk] at hp
    have hb : blankOf style = [32, 35, 32, 111, 114, 10] := by unfold blankOf; rw [hk]; rfl
    rw [hb]
    clear hk h4 hb hs
    go_enter Tryd.func13, Tryd.ntmps13
    go_wp2_with (first | (go_at_call 6; refine (hp _).mono ?_; rintro e w' ⟨rfl, rfl⟩))
    refine bodyPost_ret (v := mdV (40 :: ([32, 35, 32, 111, 114, 10] ++ (t ++ ([32, 35, 32, 111, 114, 10] ++ [41])))) e (d + 1)) (by simp [results, Tryd.results13, go_sem, bs_app]) rfl ⟨rfl, ?_⟩
    exact ((below_alloc w _).alloc (by simp) _).alloc (by simp; omega) _
end Go.Proofs.YtgfejacimdmkpaaDoor
