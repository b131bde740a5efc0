/- New pools, of the program and of the model; the laws' comparisons and marks of pools with nothing in them. -/
import Derived.Test.YtbmkedickkpjjaaProg
import Derived.Test.YtbmkedickkpjjaaPb
import Derived.Test.YtbmkedickkpjjaaMem
namespace Go.Proofs.Ytbmkedickkpjjaa
open Go.RowKit Go.BigFrame

def poolV (s n : Int) : Value := .agg #[.int .i64 s, .int .i64 n, .slice none 0 0, .slice none 0 0, .slice none 0 0, .slice none 0 0]
def newB (size : Int) : Bool := decide (1 ≤ size) && decide (size ≤ 400)

theorem impl_PoolNew (size : Int) (w : World) :
    Calls Try.prog 77 #[.int .i64 size] w fun e w' => e = .returned (.tuple #[if newB size = true then poolV size 1 else poolV 0 0, .bool (newB size)]) ∧ Below w.heap.size w w' := by
  by_cases h : 1 ≤ size ∧ size ≤ 400
  · have hn : newB size = true := by simp [newB, h]
    rw [hn, if_pos rfl]
    obtain ⟨h1, h2⟩ := h
    go_enter Try.func77, Try.ntmps77
    go_wp2
    go_returns
    go_light
    exact ⟨rfl, by go_grown⟩
  · have hn : newB size = false := by simp [newB]; omega
    rw [hn, if_neg (by simp)]
    go_enter Try.func77, Try.ntmps77
    go_wp2
    all_goals go_returns
    all_goals go_light
    all_goals exact ⟨rfl, by go_grown⟩

theorem spec_PoolNew (size : Int) (w : World) :
    Calls Try.prog 78 #[.int .i64 size] w fun e w' => e = .returned (.tuple #[if newB size = true then poolV size 1 else poolV 0 0, .bool (newB size)]) ∧ Below w.heap.size w w' := by
  cases hn : newB size
  all_goals
    have hn' : (decide (1 ≤ size) && decide (size ≤ 400)) = _ := hn
    go_enter Try.func78, Try.ntmps78
    go_wp2_with fail
    refine (spec_l1In _ _ _ _).mono ?_
    rintro e w1 ⟨rfl, rfl⟩
    rw [hn']
    go_wp2
    go_returns
    go_light
    exact ⟨rfl, by go_grown⟩

theorem nil_eqExtentS (w : World) : Calls Try.prog 83 #[.slice none 0 0, .slice none 0 0] w fun e w' => e = .returned (.bool true) ∧ w' = w := by
  go_enter Try.func83, Try.ntmps83
  go_wp2_with fail
  go_rounds 1
  go_returns
  exact ⟨rfl, rfl⟩
theorem nil_eqVolumeS (w : World) : Calls Try.prog 160 #[.slice none 0 0, .slice none 0 0] w fun e w' => e = .returned (.bool true) ∧ w' = w := by
  go_enter Try.func160, Try.ntmps160
  go_wp2_with fail
  go_rounds 1
  go_returns
  exact ⟨rfl, rfl⟩
theorem nil_eqCountedS (w : World) : Calls Try.prog 100 #[.slice none 0 0, .slice none 0 0] w fun e w' => e = .returned (.bool true) ∧ w' = w := by
  go_enter Try.func100, Try.ntmps100
  go_wp2_with fail
  go_rounds 1
  go_returns
  exact ⟨rfl, rfl⟩
theorem nil_markExtentS (k : Int) (w : World) : Calls Try.prog 85 #[.slice none 0 0, .int .i64 k] w fun e w' => e = .returned (.int .i64 k) ∧ w' = w := by
  go_enter Try.func85, Try.ntmps85
  go_wp2_with fail
  go_rounds 1
  go_returns
  exact ⟨rfl, rfl⟩
theorem nil_markVolumeS (k : Int) (w : World) : Calls Try.prog 161 #[.slice none 0 0, .int .i64 k] w fun e w' => e = .returned (.int .i64 k) ∧ w' = w := by
  go_enter Try.func161, Try.ntmps161
  go_wp2_with fail
  go_rounds 1
  go_returns
  exact ⟨rfl, rfl⟩
theorem nil_markCountedS (k : Int) (w : World) : Calls Try.prog 101 #[.slice none 0 0, .int .i64 k] w fun e w' => e = .returned (.int .i64 k) ∧ w' = w := by
  go_enter Try.func101, Try.ntmps101
  go_wp2_with fail
  go_rounds 1
  go_returns
  exact ⟨rfl, rfl⟩
theorem nil_heldExtentS (k : Int) (w : World) : Calls Try.prog 88 #[.slice none 0 0, .int .i64 k] w fun e w' => e = .returned (.int .i64 k) ∧ w' = w := by
  go_enter Try.func88, Try.ntmps88
  go_wp2_with fail
  go_rounds 1
  go_returns
  exact ⟨rfl, rfl⟩
theorem nil_heldVolumeS (k : Int) (w : World) : Calls Try.prog 162 #[.slice none 0 0, .int .i64 k] w fun e w' => e = .returned (.int .i64 k) ∧ w' = w := by
  go_enter Try.func162, Try.ntmps162
  go_wp2_with fail
  go_rounds 1
  go_returns
  exact ⟨rfl, rfl⟩
theorem nil_heldCountedS (k : Int) (w : World) : Calls Try.prog 102 #[.slice none 0 0, .int .i64 k] w fun e w' => e = .returned (.int .i64 k) ∧ w' = w := by
  go_enter Try.func102, Try.ntmps102
  go_wp2_with fail
  go_rounds 1
  go_returns
  exact ⟨rfl, rfl⟩

theorem eqPool_new (s n : Int) (w : World) : Calls Try.prog 105 #[poolV s n, poolV s n] w fun e w' => e = .returned (.bool true) ∧ Below w.heap.size w w' := by
  have e1 : (s != s) = false := by simp
  have e2 : (n != n) = false := by simp
  unfold poolV
  go_enter Try.func105, Try.ntmps105
  go_wp2_with (first | (go_at_call 83; refine (nil_eqExtentS _).mono ?_; rintro e w1 ⟨rfl, rfl⟩) | (go_at_call 160; refine (nil_eqVolumeS _).mono ?_; rintro e w1 ⟨rfl, rfl⟩) | (go_at_call 100; refine (nil_eqCountedS _).mono ?_; rintro e w1 ⟨rfl, rfl⟩))
  go_returns
  go_light
  exact ⟨rfl, by go_grown⟩
theorem markPool_new (s n : Int) (w : World) : Calls Try.prog 106 #[poolV s n, .int .i64 1] w fun e w' => e = .returned (.int .i64 1) ∧ Below w.heap.size w w' := by
  unfold poolV
  go_enter Try.func106, Try.ntmps106
  go_wp2_with (first | (go_at_call 85; refine (nil_markExtentS _ _).mono ?_; rintro e w1 ⟨rfl, rfl⟩) | (go_at_call 161; refine (nil_markVolumeS _ _).mono ?_; rintro e w1 ⟨rfl, rfl⟩) | (go_at_call 101; refine (nil_markCountedS _ _).mono ?_; rintro e w1 ⟨rfl, rfl⟩))
  go_returns
  go_light
  exact ⟨rfl, by go_grown⟩
theorem heldPool_new (s n : Int) (w : World) : Calls Try.prog 107 #[poolV s n, .int .i64 1] w fun e w' => e = .returned (.int .i64 1) ∧ Below w.heap.size w w' := by
  unfold poolV
  go_enter Try.func107, Try.ntmps107
  go_wp2_with (first | (go_at_call 88; refine (nil_heldExtentS _ _).mono ?_; rintro e w1 ⟨rfl, rfl⟩) | (go_at_call 162; refine (nil_heldVolumeS _ _).mono ?_; rintro e w1 ⟨rfl, rfl⟩) | (go_at_call 102; refine (nil_heldCountedS _ _).mono ?_; rintro e w1 ⟨rfl, rfl⟩))
  go_returns
  go_light
  exact ⟨rfl, by go_grown⟩
end Go.Proofs.Ytbmkedickkpjjaa
