/- New pools, of the program and of the model. -/
import Derived.Test.YtnjefbkhibfgmaaGreatProg
import Derived.Test.YtnjefbkhibfgmaaGreatLDAskedx00
namespace Go.Proofs.YtnjefbkhibfgmaaGreat
open Go.RowKit Go.BigFrame
def poolV (s n : Int) : Value := .agg #[.int .i64 s, .int .i64 n, .slice none 0 0, .slice none 0 0, .slice none 0 0, .slice none 0 0]
def newB (size : Int) : Bool := decide (1 ≤ size) && decide (size ≤ 400)
theorem spec_PoolNew (size : Int) (w : World) :
    Calls Tryz.prog 63 #[.int .i64 size] w fun e w' => e = .returned (.tuple #[if newB size = true then poolV size 1 else poolV 0 0, .bool (newB size)]) ∧ Below w.heap.size w w' := by
  cases hn : newB size
  all_goals
    have hn' : (decide (1 ≤ size) && decide (size ≤ 400)) = _ := hn
    go_enter Tryz.func63, Tryz.ntmps63
    go_wp2_with fail
    refine (spec_l1In _ _ _ _).mono ?_
    rintro e w1 ⟨rfl, rfl⟩
    rw [hn']
    go_wp2
    go_returns
    go_light
    exact ⟨rfl, by go_grown⟩
end Go.Proofs.YtnjefbkhibfgmaaGreat
